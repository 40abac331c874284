/- The reference: a block added to a state. -/
import Derived.Test.YtkjdfjpfghpofaaDoorGn
import Derived.Test.YtkjdfjpfghpofaaDoorGe
import Derived.Deep.DeepCutAuto
import Derived.BigRegion
namespace Go.Proofs.YtkjdfjpfghpofaaDoor
open Go.RowKit

/-- A callee that only draws, met where draws have been joined: its own are added to the later ones. -/
theorem drawing_callee {P : Program} {f : FuncId} {args : Array Value} {w : World} {i j : Nat} {r : Value}
    (c : Calls P f args (w.drewN (i + j)) fun e x => e = .returned r ∧ ∃ q, x = (w.drewN (i + j)).drewN q) :
    Calls P f args (w.drewN (i + j)) fun e x => e = .returned r ∧ ∃ q, x = w.drewN (i + q) := by
  refine c.mono ?_
  rintro e x ⟨h, q, rfl⟩
  exact ⟨h, j + q, by rw [World.drewN_drewN, Nat.add_assoc]⟩

/-- What stands in memory while the words of a block are made. -/
def SchW (w : World) (c : Nat) (S ks ws : List Int) (wr : World) : Prop :=
  Blk .u32 wr w.heap.size 83 S ∧ Blk .u32 wr (w.heap.size + 1) 83 (List.replicate 8 0) ∧ Blk .u32 wr c 93 ks ∧ Blk .u32 wr (c + 1) 93 ws ∧ Below w.heap.size w wr ∧ w.heap.size + 1 < c
theorem SchW.drewN {w wr : World} {c : Nat} {S ks ws : List Int} (h : SchW w c S ks ws wr) (n : Nat) : SchW w c S ks ws (wr.drewN n) := ⟨h.1, h.2.1, h.2.2.1, h.2.2.2.1, bdn h.2.2.2.2.1 n, h.2.2.2.2.2⟩
theorem SchW.set {w wr : World} {c : Nat} {S ks ws : List Int} (h : SchW w c S ks ws wr) (j : Nat) (v : Int) : SchW w c S ks (ws.set j v) (wr.setCell ⟨c + 1, j, none⟩ (.int .u32 v)) := by
  have hc := h.2.2.2.2.2
  exact ⟨h.1.other _ _ (by omega : w.heap.size ≠ c + 1), h.2.1.other _ _ (by omega : w.heap.size + 1 ≠ c + 1), h.2.2.1.other _ _ (by omega : c ≠ c + 1), h.2.2.2.1.set j v, h.2.2.2.2.1.setCell (by omega : w.heap.size ≤ c + 1) _, hc⟩

theorem schW_start (w w1 : World) (S : List Int) (xs zs ys qs : Array Value) (hx : xs = (S.map (Value.int .u32)).toArray) (hz : zs = ((List.replicate 8 0).map (Value.int .u32)).toArray) (hy : ys = ((List.replicate 64 0).map (Value.int .u32)).toArray) (hq : qs = ((List.replicate 64 0).map (Value.int .u32)).toArray)
    (hb : Below ((w.alloc (.cells xs 83)).alloc (.cells zs 83)).heap.size ((w.alloc (.cells xs 83)).alloc (.cells zs 83)) w1) :
    SchW w w1.heap.size S Sha.kL (List.replicate 64 0) (((w1.alloc (.cells ys 93)).setRow w1.heap.size (Sha.kL.map (Value.int .u32)).toArray).alloc (.cells qs 93)) := by
  have hB0 : Below w.heap.size w ((w.alloc (.cells xs 83)).alloc (.cells zs 83)) := by (repeat' (first | (with_reducible exact Below.refl _ _) | (with_reducible assumption) | (with_reducible refine bdn ?_ _) | (with_reducible refine Below.drew ?_) | (with_reducible refine Below.alloc ?_ ?_ _) | (with_reducible refine Below.setCell ?_ ?_ _) | go_size))
  have hs := hb.size
  simp at hs
  have b0 : Blk .u32 w1 w.heap.size 83 S := ((Blk.new w S xs hx).alloc _).below hb (by simp; omega)
  have b1 : Blk .u32 w1 (w.heap.size + 1) 83 (List.replicate 8 0) := (zeros_new _ _ _ .u32 8 _ (by simp) hz).below hb (by simp)
  have b2 : Blk .u32 (w1.alloc (.cells ys 93)) w1.heap.size 93 (List.replicate 64 0) := zeros_new _ _ _ .u32 64 _ rfl hy
  have hB1 : Below w.heap.size w w1 := hB0.trans (hb.mono (by simp; omega))
  refine ⟨((b0.alloc _).otherRow _ _ (by omega)).alloc _, ((b1.alloc _).otherRow _ _ (by omega)).alloc _, (b2.row Sha.kL).alloc _, zeros_new _ _ _ .u32 64 _ (by simp) hq, Below.alloc (Below.setRow (hB1.alloc hB1.size _) (by omega) _) (by simp; omega) _, by omega⟩

/-- What stands in memory while the rounds go on. -/
def RndW (w : World) (c d : Nat) (S ws v : List Int) (wr : World) : Prop := SchW w c S Sha.kL ws wr ∧ Blk .u32 wr d 83 v ∧ c + 1 < d
theorem RndW.drewN {w wr : World} {c d : Nat} {S ws v : List Int} (h : RndW w c d S ws v wr) (n : Nat) : RndW w c d S ws v (wr.drewN n) := ⟨h.1.drewN n, h.2.1, h.2.2⟩
theorem rndW_start (w wr : World) (c : Nat) (S ws v : List Int) (zs : Array Value) (hz : zs = ((List.replicate 8 0).map (Value.int .u32)).toArray) (h : SchW w c S Sha.kL ws wr) :
    RndW w c wr.heap.size S ws v ((wr.alloc (.cells zs 83)).setRow wr.heap.size (v.map (Value.int .u32)).toArray) := by
  have hd := h.2.2.2.1.lt
  have hb := h.2.2.2.2.1.size
  have hc := h.2.2.2.2.2
  have b : Blk .u32 (wr.alloc (.cells zs 83)) wr.heap.size 83 (List.replicate 8 0) := zeros_new _ _ _ .u32 8 _ rfl hz
  exact ⟨⟨(h.1.alloc _).otherRow _ _ (by omega), (h.2.1.alloc _).otherRow _ _ (by omega), (h.2.2.1.alloc _).otherRow _ _ (by omega), (h.2.2.2.1.alloc _).otherRow _ _ (by omega), Below.setRow (h.2.2.2.2.1.alloc h.2.2.2.2.1.size _) (by omega) _, hc⟩, b.row v, hd⟩
theorem RndW.store {w wr : World} {c d : Nat} {S ws v : List Int} (h : RndW w c d S ws v wr) (v' : List Int) : RndW w c d S ws v' (wr.setRow d (v'.map (Value.int .u32)).toArray) := by
  have hc := h.1.2.2.2.2.2
  have hd := h.2.2
  exact ⟨⟨h.1.1.otherRow _ _ (by omega), h.1.2.1.otherRow _ _ (by omega), h.1.2.2.1.otherRow _ _ (by omega), h.1.2.2.2.1.otherRow _ _ (by omega), Below.setRow h.1.2.2.2.2.1 (by omega) _, hc⟩, h.2.1.row v', hd⟩
theorem RndW.set {w wr : World} {c d : Nat} {S ws v : List Int} (h : RndW w c d S ws v wr) (j : Nat) (x : Int) : RndW w c d (S.set j x) ws v (wr.setCell ⟨w.heap.size, j, none⟩ (.int .u32 x)) := by
  have hc := h.1.2.2.2.2.2
  have hd := h.2.2
  exact ⟨⟨h.1.1.set j x, h.1.2.1.other _ _ (by omega : w.heap.size + 1 ≠ w.heap.size), h.1.2.2.1.other _ _ (by omega : c ≠ w.heap.size), h.1.2.2.2.1.other _ _ (by omega : c + 1 ≠ w.heap.size), h.1.2.2.2.2.1.setCell (Nat.le_refl _) _, hc⟩, h.2.1.other _ _ (by omega : d ≠ w.heap.size), hd⟩

set_option maxRecDepth 100000 in
set_option maxHeartbeats 4000000 in
theorem block_c (S : Sha.S8) (s : ByteArray) (hs : s.size = 64) (w : World) :
    Calls Tryd.prog 58 #[stV S, .string s] w fun e w' => e = .returned (stV (Sha.compress S s)) ∧ Below w.heap.size w w' := by
  have HS := Lib.hid hs
  clear hs
  unfold stV
  go_enter Tryd.func58, Tryd.ntmps58
  go_wp2_with (first
    | (go_at_call 65; refine (rounds_c _).mono ?_; rintro e w1 ⟨rfl, hb⟩; have HB := Lib.hid hb; clear hb)
    | refine store_blk (zeros_new w1 93 _ .u32 64 _ rfl (by rfl)) rfl _ _ rfl rfl Sha.kL rfl rfl (by kernel_rfl) ?_)
  go_loopw [7, 8, 9] (fun i _ _ wr => ∃ n : Nat, n ≤ 64 ∧ i = .int .i64 n ∧ Hid (SchW w w1.heap.size S.list Sha.kL (Sha.grow s n) wr)) (fun i _ _ _ => 64 - (intOf i).toNat)
  case atStart =>
    refine ⟨0, by omega, rfl, ?_⟩
    apply Lib.hid
    exact schW_start w w1 S.list _ _ _ _ (by rfl) (by rfl) (by rfl) (by rfl) HB.out
  clear HB
  case round =>
    obtain ⟨n, hn, rfl, hM⟩ := hrel
    by_cases hlt : n < 64
    · by_cases h16 : n < 16
      · have hc := hM.out.2.2.2.1.cell n (by rw [Sha.grow_length]; exact hlt)
        have hf := hM.out.2.2.2.1.free n
        obtain ⟨x, hx⟩ : ∃ x, (Sha.grow s n).getD n 0 = x := ⟨_, rfl⟩
        rw [hx] at hc
        have a0 := Sha.byteI_get s (4 * n) (by rw [HS.out]; omega)
        have a1 := Sha.byteI_get s (4 * n + 1) (by rw [HS.out]; omega)
        have a2 := Sha.byteI_get s (4 * n + 2) (by rw [HS.out]; omega)
        have a3 := Sha.byteI_get s (4 * n + 3) (by rw [HS.out]; omega)
        have f0 := wrap_byte _ (Sha.byteI_lo s (4 * n)) (Sha.byteI_hi s (4 * n))
        have f1 := wrap_byte _ (Sha.byteI_lo s (4 * n + 1)) (Sha.byteI_hi s (4 * n + 1))
        have f2 := wrap_byte _ (Sha.byteI_lo s (4 * n + 2)) (Sha.byteI_hi s (4 * n + 2))
        have f3 := wrap_byte _ (Sha.byteI_lo s (4 * n + 3)) (Sha.byteI_hi s (4 * n + 3))
        have hG : Sha.grow s (n + 1) = (Sha.grow s n).set n (Sha.wordI (Sha.byteI s (4 * n)) (Sha.byteI s (4 * n + 1)) (Sha.byteI s (4 * n + 2)) (Sha.byteI s (4 * n + 3))) := (Sha.grow_word s n h16).symm
        obtain ⟨x0, g0⟩ : ∃ x, Sha.byteI s (4 * n) = x := ⟨_, rfl⟩
        obtain ⟨x1, g1⟩ : ∃ x, Sha.byteI s (4 * n + 1) = x := ⟨_, rfl⟩
        obtain ⟨x2, g2⟩ : ∃ x, Sha.byteI s (4 * n + 2) = x := ⟨_, rfl⟩
        obtain ⟨x3, g3⟩ : ∃ x, Sha.byteI s (4 * n + 3) = x := ⟨_, rfl⟩
        rw [g0] at a0 f0; rw [g1] at a1 f1; rw [g2] at a2 f2; rw [g3] at a3 f3
        rw [g0, g1, g2, g3] at hG
        have HG := Lib.hid (And.intro hG h16)
        have i0 : (0 : Int) ≤ (n : Int) := by omega
        have i1 : (n : Int) < 16 := by omega
        have i2 : (n : Int) < 64 := by omega
        have z0 : 4 * (n : Int) < (s.size : Int) := by rw [HS.out]; omega
        have z1 : 4 * (n : Int) + 1 < (s.size : Int) := by rw [HS.out]; omega
        have z2 : 4 * (n : Int) + 2 < (s.size : Int) := by rw [HS.out]; omega
        have z3 : 4 * (n : Int) + 3 < (s.size : Int) := by rw [HS.out]; omega
        have y0 : (4 * (n : Int)).toNat = 4 * n := by omega
        have y1 : (4 * (n : Int) + 1).toNat = 4 * n + 1 := by omega
        have y2 : (4 * (n : Int) + 2).toNat = 4 * n + 2 := by omega
        have y3 : (4 * (n : Int) + 3).toNat = 4 * n + 3 := by omega
        have v0 : IntKind.i64.wrap (4 * (n : Int)) = 4 * (n : Int) := by rw [IntKind.wrap_i64]; omega
        have v1 : IntKind.i64.wrap (4 * (n : Int) + 1) = 4 * (n : Int) + 1 := by rw [IntKind.wrap_i64]; omega
        have v2 : IntKind.i64.wrap (4 * (n : Int) + 2) = 4 * (n : Int) + 2 := by rw [IntKind.wrap_i64]; omega
        have v3 : IntKind.i64.wrap (4 * (n : Int) + 3) = 4 * (n : Int) + 3 := by rw [IntKind.wrap_i64]; omega
        clear hx hG g0 g1 g2 g3
        go_wp2_with fail
        go_region
        all_goals
          go_wp2_with fail
          refine ⟨⟨n + 1, by omega, by go_num, Lib.hid ?_⟩, by simp only [intOf]; omega⟩
          have e := hM.out.set n (Sha.wordI x0 x1 x2 x3)
          rw [← HG.out.1] at e
          exact e.drewN 1
      · have hc := hM.out.2.2.2.1.cell n (by rw [Sha.grow_length]; exact hlt)
        have hf := hM.out.2.2.2.1.free n
        obtain ⟨x, hx⟩ : ∃ x, (Sha.grow s n).getD n 0 = x := ⟨_, rfl⟩
        rw [hx] at hc; clear hx
        have c15 := hM.out.2.2.2.1.cell (n - 15) (by rw [Sha.grow_length]; omega)
        have c2 := hM.out.2.2.2.1.cell (n - 2) (by rw [Sha.grow_length]; omega)
        have c16 := hM.out.2.2.2.1.cell (n - 16) (by rw [Sha.grow_length]; omega)
        have c7 := hM.out.2.2.2.1.cell (n - 7) (by rw [Sha.grow_length]; omega)
        obtain ⟨x15, e15⟩ : ∃ x, (Sha.grow s n).getD (n - 15) 0 = x := ⟨_, rfl⟩
        obtain ⟨x2, e2⟩ : ∃ x, (Sha.grow s n).getD (n - 2) 0 = x := ⟨_, rfl⟩
        obtain ⟨x16, e16⟩ : ∃ x, (Sha.grow s n).getD (n - 16) 0 = x := ⟨_, rfl⟩
        obtain ⟨x7, e7⟩ : ∃ x, (Sha.grow s n).getD (n - 7) 0 = x := ⟨_, rfl⟩
        rw [e15] at c15; rw [e2] at c2; rw [e16] at c16; rw [e7] at c7
        have hG : Sha.grow s (n + 1) = (Sha.grow s n).set n ((x16 + Sha.sig0 x15 + x7 + Sha.sig1 x2) % 4294967296) := by
          rw [← Sha.grow_ext s n h16, Sha.ext, e15, e2, e16, e7]
        have HG := Lib.hid (And.intro hG hlt); clear e15 e2 e16 e7 hG
        have i0 : (0 : Int) ≤ (n : Int) - 15 := by omega
        have i1 : (n : Int) - 15 < 64 := by omega
        have i2 : ((n : Int) - 15).toNat = n - 15 := by omega
        have i3 : (0 : Int) ≤ (n : Int) - 2 := by omega
        have i4 : (n : Int) - 2 < 64 := by omega
        have i5 : ((n : Int) - 2).toNat = n - 2 := by omega
        have i6 : (0 : Int) ≤ (n : Int) - 16 := by omega
        have i7 : (n : Int) - 16 < 64 := by omega
        have i8 : ((n : Int) - 16).toNat = n - 16 := by omega
        have i9 : (0 : Int) ≤ (n : Int) - 7 := by omega
        have ia : (n : Int) - 7 < 64 := by omega
        have ib : ((n : Int) - 7).toNat = n - 7 := by omega
        have ic : (n : Int) < 64 := by omega
        have id : (0 : Int) ≤ (n : Int) := by omega
        have y0 : IntKind.i64.wrap ((n : Int) - 15) = (n : Int) - 15 := by rw [IntKind.wrap_i64]; omega
        have y1 : IntKind.i64.wrap ((n : Int) - 2) = (n : Int) - 2 := by rw [IntKind.wrap_i64]; omega
        have y2 : IntKind.i64.wrap ((n : Int) - 16) = (n : Int) - 16 := by rw [IntKind.wrap_i64]; omega
        have y3 : IntKind.i64.wrap ((n : Int) - 7) = (n : Int) - 7 := by rw [IntKind.wrap_i64]; omega
        go_wp2_with fail
        have p0 : (7 : Int) ≤ (n : Int) := by omega
        have p1 : (16 : Int) ≤ (n : Int) := by omega
        have p2 : (n : Int) < 71 := by omega
        have p3 : (n : Int) < 80 := by omega
        have p4 : (n : Int) < 64 + 7 := by omega
        have p5 : (n : Int) < 64 + 16 := by omega
        have q1 : ¬ n - 16 = n := by omega
        have q2 : ¬ n - 7 = n := by omega
        have q3 : ¬ n = n - 16 := by omega
        have q4 : ¬ n = n - 7 := by omega
        go_region_held3 (fun w' => w'.cell? ⟨w1.heap.size + 1, n - 16, none⟩ = some (.int .u32 x16) ∧ w'.cell? ⟨w1.heap.size + 1, n - 7, none⟩ = some (.int .u32 x7)) (simp [*, go_sem])
         (first
          | (go_at_call_of 66 (Value.int IntKind.i64 7); refine (refRot_c x15 7 (by omega) (by omega) _).mono ?_; rintro e w2 ⟨rfl, nq1, rfl⟩)
          | (go_at_call_of 66 (Value.int IntKind.i64 18); refine (refRot_c x15 18 (by omega) (by omega) _).mono ?_; rintro e w3 ⟨rfl, nq2, rfl⟩)
          | (go_at_call_of 66 (Value.int IntKind.i64 17); refine (refRot_c x2 17 (by omega) (by omega) _).mono ?_; rintro e w4 ⟨rfl, nq3, rfl⟩)
          | (go_at_call_of 66 (Value.int IntKind.i64 19); refine (refRot_c x2 19 (by omega) (by omega) _).mono ?_; rintro e w5 ⟨rfl, nq4, rfl⟩))
        all_goals
          go_wp2_with fail
          refine ⟨⟨n + 1, HG.out.2, by go_num, Lib.hid ?_⟩, by have := HG.out.2; simp only [intOf]; omega⟩
          have e := (hM.out.drewN (1 + nq1 + nq2 + nq3 + nq4)).set n ((x16 + Sha.sig0 x15 + x7 + Sha.sig1 x2) % 4294967296)
          rw [← HG.out.1] at e
          rw [show (((x16 + bits BinOp.xor IntKind.u32 (bits BinOp.xor IntKind.u32 (Sha.rotI x15 7) (Sha.rotI x15 18)) (x15 / 8)) % 4294967296 + x7) % 4294967296 + bits BinOp.xor IntKind.u32 (bits BinOp.xor IntKind.u32 (Sha.rotI x2 17) (Sha.rotI x2 19)) (x2 / 1024)) % 4294967296 = (x16 + Sha.sig0 x15 + x7 + Sha.sig1 x2) % 4294967296 by unfold Sha.sig0 Sha.sig1; omega]
          exact e
    · obtain rfl : n = 64 := by omega
      have hlen := Sha.grow_length s 64
      have hcm : Sha.compress S s = Sha.plus8 S (Sha.rnds (Sha.grow s 64) S 64) := rfl
      obtain ⟨ws, hws⟩ : ∃ l, Sha.grow s 64 = l := ⟨_, rfl⟩
      rw [hws] at hM hlen hcm
      have HW := Lib.hid (And.intro hlen hcm)
      obtain ⟨wa, hwa⟩ : ∃ v, v = wr := ⟨_, rfl⟩
      subst hwa
      clear hws hlen hcm HS hlt hn
      go_wp2_with (first
        | refine load_blk hM.out.1 rfl _ rfl rfl 8 82 (by kernel_rfl) (by kernel_rfl) ?_
        | refine store_blk (zeros_new wa 83 _ .u32 8 _ rfl (by rfl)) rfl _ _ rfl rfl S.list rfl rfl (by kernel_rfl) ?_)
      go_loopw [11, 12, 13, 14, 15] (fun i _ _ _ _ wr => ∃ n : Nat, n ≤ 64 ∧ i = .int .i64 n ∧ Hid (RndW w w1.heap.size wa.heap.size S.list ws (Sha.rnds ws S n).list wr)) (fun i _ _ _ _ _ => 64 - (intOf i).toNat)
      case atStart =>
        refine ⟨0, by omega, rfl, ?_⟩
        apply Lib.hid
        exact rndW_start w wa _ S.list ws S.list _ (by rfl) hM.out
      clear hM
      case round =>
        obtain ⟨n, hn, rfl, hM⟩ := hrel
        by_cases hlt : n < 64
        · have hc := hM.out.1.2.2.2.1.cell n (by rw [HW.out.1]; exact hlt)
          have hk := hM.out.1.2.2.1.cell n (by exact hlt)
          obtain ⟨x, hx⟩ : ∃ x, ws.getD n 0 = x := ⟨_, rfl⟩
          obtain ⟨y, hy⟩ : ∃ x, Sha.kL.getD n 0 = x := ⟨_, rfl⟩
          rw [hx] at hc; rw [hy] at hk
          have hR : Sha.rnds ws S (n + 1) = Sha.rnd (Sha.rnds ws S n) y x := by rw [← hx, ← hy]; rfl
          have HR := Lib.hid (And.intro hR hlt)
          have i0 : (0 : Int) ≤ (n : Int) := by omega
          have i1 : (n : Int) < 64 := by omega
          clear hx hy hR
          obtain ⟨⟨a, b, c, d, e, f, g, hh⟩, hS⟩ : ∃ Z, Sha.rnds ws S n = Z := ⟨_, rfl⟩
          rw [hS] at HR hM
          clear hS
          have c0 := hM.out.2.1.cell 0 (by simp [Sha.S8.list])
          have c1 := hM.out.2.1.cell 1 (by simp [Sha.S8.list])
          have c2 := hM.out.2.1.cell 2 (by simp [Sha.S8.list])
          have c3 := hM.out.2.1.cell 3 (by simp [Sha.S8.list])
          have c4 := hM.out.2.1.cell 4 (by simp [Sha.S8.list])
          have c5 := hM.out.2.1.cell 5 (by simp [Sha.S8.list])
          have c6 := hM.out.2.1.cell 6 (by simp [Sha.S8.list])
          have c7 := hM.out.2.1.cell 7 (by simp [Sha.S8.list])
          simp only [Sha.S8.list, List.getD_cons_zero, List.getD_cons_succ] at c0 c1 c2 c3 c4 c5 c6 c7
          go_wp2_with fail
          go_quiet ((go_at_call 66; exact Calls.quiet_of (refRot_c _ _ (by omega) (by omega) _)))
          go_wp2_with fail
          go_quiet ((go_at_call 66; exact drawing_callee (refRot_c _ _ (by omega) (by omega) _)))
          have hT : (hh + bits .xor .u32 (bits .xor .u32 (Sha.rotI e 6) (Sha.rotI e 11)) (Sha.rotI e 25) + bits .xor .u32 (bits .and .u32 e f) (bits .and .u32 (bits .xor .u32 IntKind.u32.max e) g) + y + x) % 4294967296 = Sha.tI ⟨a, b, c, d, e, f, g, hh⟩ y x := rfl
          have hU : (bits .xor .u32 (bits .xor .u32 (Sha.rotI a 2) (Sha.rotI a 13)) (Sha.rotI a 22) + bits .xor .u32 (bits .xor .u32 (bits .and .u32 a b) (bits .and .u32 a c)) (bits .and .u32 b c)) % 4294967296 = Sha.uI ⟨a, b, c, d, e, f, g, hh⟩ := rfl
          rw [hT, hU]
          obtain ⟨p, hp⟩ : ∃ p, Sha.tI ⟨a, b, c, d, e, f, g, hh⟩ y x = p := ⟨_, rfl⟩
          obtain ⟨q, hq⟩ : ∃ q, Sha.uI ⟨a, b, c, d, e, f, g, hh⟩ = q := ⟨_, rfl⟩
          have hR2 : (Sha.rnds ws S (n + 1)).list = [(p + q) % 4294967296, a, b, c, (d + p) % 4294967296, e, f, g] := by
            rw [HR.out.1, Sha.rnd, hp, hq]; rfl
          have HR2 := Lib.hid hR2
          rw [hp, hq]
          clear hT hU hp hq hR2
          go_wp2_with (refine store_blk (hM.out.drewN _).2.1 rfl _ _ rfl rfl [(p + q) % 4294967296, a, b, c, (d + p) % 4294967296, e, f, g] rfl rfl (by kernel_rfl) ?_)
          refine ⟨⟨n + 1, HR.out.2, by go_num, Lib.hid ?_⟩, by have := HR.out.2; simp only [intOf]; omega⟩
          rw [HR2.out]
          exact (hM.out.drewN _).store [(p + q) % 4294967296, a, b, c, (d + p) % 4294967296, e, f, g]
        · obtain rfl : n = 64 := by omega
          have hC : Sha.compress S s = Sha.plus8 S (Sha.rnds ws S 64) := HW.out.2
          obtain ⟨R, hR⟩ : ∃ R, Sha.rnds ws S 64 = R := ⟨_, rfl⟩
          rw [hR] at hM hC
          have HC := Lib.hid hC
          clear hR hC HW hlt hn
          go_wp2_with fail
          go_loopw [16] (fun i wr => ∃ j : Nat, j ≤ 8 ∧ i = .int .i64 j ∧ Hid (RndW w w1.heap.size wa.heap.size (Sha.addN S.list R.list j) ws R.list wr)) (fun i _ => 8 - (intOf i).toNat)
          case atStart => exact ⟨0, by omega, rfl, hM⟩
          clear hM
          case round =>
            obtain ⟨j, hj, rfl, hM⟩ := hrel
            by_cases hlj : j < 8
            · have hc := hM.out.1.1.cell j (by rw [Sha.addN_length]; exact hlj)
              have hf := hM.out.1.1.free j
              have hd := hM.out.2.1.cell j (by exact hlj)
              obtain ⟨x, hx⟩ : ∃ x, (Sha.addN S.list R.list j).getD j 0 = x := ⟨_, rfl⟩
              obtain ⟨y, hy⟩ : ∃ x, R.list.getD j 0 = x := ⟨_, rfl⟩
              rw [hx] at hc; rw [hy] at hd
              have HX := Lib.hid (And.intro hx (And.intro hy hlj))
              have i0 : (0 : Int) ≤ (j : Int) := by omega
              have i1 : (j : Int) < 8 := by omega
              clear hx hy
              go_wp2_with fail
              go_region
              all_goals
                go_wp2_with fail
                refine ⟨⟨j + 1, HX.out.2.2, by go_num, Lib.hid ?_⟩, by have := HX.out.2.2; simp only [intOf]; omega⟩
                have e := hM.out.set j ((x + y) % 4294967296)
                rw [Sha.addN, HX.out.1, HX.out.2.1]
                exact e.drewN 1
            · obtain rfl : j = 8 := by omega
              rw [Sha.addN_all] at hM
              clear hlj hj
              obtain ⟨Z, hZ⟩ : ∃ Z, Sha.plus8 S R = Z := ⟨_, rfl⟩
              rw [hZ] at hM
              have HZ := Lib.hid hZ
              clear hZ
              go_wp2_with (first
                | refine load_blk hM.out.1.1 rfl _ rfl rfl 8 82 (by kernel_rfl) (by kernel_rfl) ?_
                | refine store_blk hM.out.1.2.1 rfl _ _ rfl rfl Z.list rfl rfl (by kernel_rfl) ?_)
              exact bodyPost_ret (Blk.result (hM.out.1.2.1.row Z.list) Tryd.results58 _ rfl 8 82 (by kernel_rfl) (by kernel_rfl)) rfl ⟨by rw [HC.out, HZ.out]; rfl, Below.setRow hM.out.1.2.2.2.2.1 (by omega) _⟩
end Go.Proofs.YtkjdfjpfghpofaaDoor
