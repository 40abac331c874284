/- Halves; the hashes of strings and of two hashes: Leaf, Node of both sides. -/
import Derived.Test.YtkjdfjpfghpofaaDoorUa
import Derived.Test.YtkjdfjpfghpofaaDoorGr
import Derived.Test.YtkjdfjpfghpofaaDoorGs
import Derived.Test.YtkjdfjpfghpofaaDoorGk0
namespace Go.Proofs.YtkjdfjpfghpofaaDoor
open Go.RowKit

/-- What stands in memory while a hash is made: its block, which is the first new one. -/
def ResW (w wr : World) : Prop := Blk .u8 wr w.heap.size 24 (List.replicate 32 0) ∧ Below w.heap.size w wr
theorem ResW.below {w wr w' : World} (h : ResW w wr) (hb : Below wr.heap.size wr w') : ResW w w' := ⟨h.1.below hb h.1.lt, h.2.trans (hb.mono h.2.size)⟩
theorem ResW.drew {w wr : World} (h : ResW w wr) : ResW w wr.drew := ⟨h.1, h.2.drew⟩
theorem resW_start (w : World) (zs : Array Value) (hz : zs = ((List.replicate 32 0).map (Value.int .u8)).toArray) : ResW w (w.alloc (.cells zs 24)) := by
  have hB : Below w.heap.size w (w.alloc (.cells zs 24)) := by (repeat' (first | (with_reducible exact Below.refl _ _) | (with_reducible assumption) | (with_reducible refine bdn ?_ _) | (with_reducible refine Below.drew ?_) | (with_reducible refine Below.alloc ?_ ?_ _) | (with_reducible refine Below.setCell ?_ ?_ _) | go_size))
  exact ⟨zeros_new _ _ _ .u8 32 _ rfl hz, hB⟩

theorem leafS_size (s : ByteArray) : (Tree.leafS s).size = s.size + 1 := by
  rw [Tree.leafS, ByteArray.size_append]; have : (⟨#[0]⟩ : ByteArray).size = 1 := rfl; omega
theorem nodeS_size (a b : List Int) (ha : a.length = 32) (hb : b.length = 32) : (Tree.nodeS a b).size = 65 := by
  rw [Tree.nodeS, ByteArray.size_append, ByteArray.size_append, strOfNums_size, strOfNums_size, ha, hb]; rfl
theorem leaf_hash (s : ByteArray) : Sha.Hash (Tree.leaf s) := Sha.sum_hash _
theorem node_hash (a b : List Int) : Sha.Hash (Tree.node a b) := Sha.sum_hash _
theorem root_hash (l : List ByteArray) : Sha.Hash (Tree.root l) := by
  by_cases h0 : l.length = 0
  · obtain rfl : l = [] := List.length_eq_zero_iff.1 h0
    rw [Tree.root_nil]; exact Sha.sum_hash _
  · by_cases h1 : l.length = 1
    · rw [Tree.root_one l h1]; exact leaf_hash _
    · rw [Tree.root_more l (by omega)]; exact node_hash _ _

set_option maxRecDepth 100000 in
set_option maxHeartbeats 1000000 in
theorem leaf_c (s : ByteArray) (hs : s.size ≤ 140737488351232) (w : World) (ht : Tabs w) :
    Calls Tryd.prog 14 #[.string s] w fun e w' => e = .returned (hashV (Tree.leaf s)) ∧ Below w.heap.size w w' := by
  have HT := Lib.hid ht
  clear ht
  have hz := leafS_size s
  have k0 : ∀ w, (Op.stringOp .add ⟨#[0]⟩ s).run Tryd.prog w = .ok (.string (Tree.leafS s)) w := fun w => run_string_add_sum w _ _ (by have : (⟨#[0]⟩ : ByteArray).size = 1 := rfl; omega)
  have C1 := Lib.hid (fun w' h => sum_c (Tree.leafS s) (by omega) w' h)
  have hl : (Tree.leaf s).length = 32 := (leaf_hash s).1
  have he : Sha.sum (Tree.leafS s) = Tree.leaf s := rfl
  rw [he] at C1
  obtain ⟨x, hx⟩ : ∃ x, Tree.leafS s = x := ⟨_, rfl⟩
  obtain ⟨l, hl0⟩ : ∃ l, Tree.leaf s = l := ⟨_, rfl⟩
  rw [hx] at k0 C1
  rw [hl0] at C1 hl ⊢
  have HL := Lib.hid hl
  clear he hx hl0 hl hz hs
  go_enter Tryd.func14, Tryd.ntmps14
  go_wp2_with (first
    | (go_at_call 36; refine (C1.out _ (HT.out.below (resW_start w _ (by rfl)).2)).mono ?_; rintro e w1 ⟨rfl, hb⟩; have hM : Hid (ResW w w1) := Lib.hid (ResW.below (resW_start w _ (by rfl)) hb); clear hb)
    | refine store_blk hM.out.1 rfl _ _ rfl rfl l rfl HL.out (by kernel_rfl) ?_)
  exact bodyPost_ret (Blk.result (hM.out.1.row l) Tryd.results14 _ rfl 32 5 (by kernel_rfl) (by rw [HL.out]; kernel_rfl)) rfl ⟨rfl, Below.setRow hM.out.2 (Nat.le_refl _) _⟩

set_option maxRecDepth 100000 in
set_option maxHeartbeats 1000000 in
theorem refLeaf_c (s : ByteArray) (hs : s.size ≤ 140737488351232) (w : World) :
    Calls Tryd.prog 15 #[.string s] w fun e w' => e = .returned (hashV (Tree.leaf s)) ∧ Below w.heap.size w w' := by
  have hz := leafS_size s
  have k0 : ∀ w, (Op.stringOp .add ⟨#[0]⟩ s).run Tryd.prog w = .ok (.string (Tree.leafS s)) w := fun w => run_string_add_sum w _ _ (by have : (⟨#[0]⟩ : ByteArray).size = 1 := rfl; omega)
  have C1 := Lib.hid (fun w' => refSum_c (Tree.leafS s) (by omega) w')
  have hl : (Tree.leaf s).length = 32 := (leaf_hash s).1
  have he : Sha.sum (Tree.leafS s) = Tree.leaf s := rfl
  rw [he] at C1
  obtain ⟨x, hx⟩ : ∃ x, Tree.leafS s = x := ⟨_, rfl⟩
  obtain ⟨l, hl0⟩ : ∃ l, Tree.leaf s = l := ⟨_, rfl⟩
  rw [hx] at k0 C1
  rw [hl0] at C1 hl ⊢
  have HL := Lib.hid hl
  clear he hx hl0 hl hz hs
  go_enter Tryd.func15, Tryd.ntmps15
  go_wp2_with (first
    | (go_at_call 37; refine (C1.out _).mono ?_; rintro e w1 ⟨rfl, hb⟩; have hM : Hid (ResW w w1) := Lib.hid (ResW.below (resW_start w _ (by rfl)) hb); clear hb)
    | refine store_blk hM.out.1 rfl _ _ rfl rfl l rfl HL.out (by kernel_rfl) ?_)
  exact bodyPost_ret (Blk.result (hM.out.1.row l) Tryd.results15 _ rfl 32 5 (by kernel_rfl) (by rw [HL.out]; kernel_rfl)) rfl ⟨rfl, Below.setRow hM.out.2 (Nat.le_refl _) _⟩

/-- What stands in memory while two hashes are joined: their boxes, and the result's block. -/
def JnW (w : World) (a b : List Int) (wr : World) : Prop := Blk .u8 wr w.heap.size 24 a ∧ Blk .u8 wr (w.heap.size + 1) 24 b ∧ Blk .u8 wr (w.heap.size + 1 + 1) 24 (List.replicate 32 0) ∧ Below w.heap.size w wr
theorem JnW.below {w wr w' : World} {a b : List Int} (h : JnW w a b wr) (hb : Below wr.heap.size wr w') : JnW w a b w' := ⟨h.1.below hb h.1.lt, h.2.1.below hb h.2.1.lt, h.2.2.1.below hb h.2.2.1.lt, h.2.2.2.trans (hb.mono h.2.2.2.size)⟩
theorem JnW.drew {w wr : World} {a b : List Int} (h : JnW w a b wr) : JnW w a b wr.drew := ⟨h.1, h.2.1, h.2.2.1, h.2.2.2.drew⟩
theorem jnW_start (w : World) (a b : List Int) (cs ds zs : Array Value) (hc : (a.map (Value.int .u8)).toArray = cs) (hd : (b.map (Value.int .u8)).toArray = ds) (hz : zs = ((List.replicate 32 0).map (Value.int .u8)).toArray) :
    JnW w a b (((w.alloc (.cells cs 24)).alloc (.cells ds 24)).alloc (.cells zs 24)) := by
  have hB : Below w.heap.size w (((w.alloc (.cells cs 24)).alloc (.cells ds 24)).alloc (.cells zs 24)) := by (repeat' (first | (with_reducible exact Below.refl _ _) | (with_reducible assumption) | (with_reducible refine bdn ?_ _) | (with_reducible refine Below.drew ?_) | (with_reducible refine Below.alloc ?_ ?_ _) | (with_reducible refine Below.setCell ?_ ?_ _) | go_size))
  refine ⟨((Blk.new w a cs hc.symm).alloc _).alloc _, ?_, zeros_new _ _ _ .u8 32 _ (by simp) hz, hB⟩
  have e := (Blk.new (k := .u8) (T := 24) (w.alloc (.cells cs 24)) b ds hd.symm).alloc (.cells zs 24)
  simpa using e
theorem blk_row {k : IntKind} {w : World} {b : Nat} {T : TypeId} {l : List Int} (h : Blk k w b T l) : RowB k w b l := fun i hi => ⟨h.cell i hi, h.free i⟩
theorem JnW.str {w wr : World} {a b : List Int} (h : JnW w a b wr) (ha : a.length = 32) (hb : b.length = 32) :
    (convert 30 9 (.slice (some ⟨w.heap.size, 0, none⟩) 32 32)).run Tryd.prog wr = .ok (.string (strOfNums a)) wr ∧
    (convert 30 9 (.slice (some ⟨w.heap.size + 1, 0, none⟩) 32 32)).run Tryd.prog wr = .ok (.string (strOfNums b)) wr :=
  ⟨(blk_row h.1).str (P := Tryd.prog) (cap := 32) ha 30 9 5 (by kernel_rfl) (by kernel_rfl) (by kernel_rfl), (blk_row h.2.1).str (P := Tryd.prog) (cap := 32) hb 30 9 5 (by kernel_rfl) (by kernel_rfl) (by kernel_rfl)⟩

set_option maxRecDepth 100000 in
set_option maxHeartbeats 1000000 in
theorem node_c (a b : List Int) (ha : a.length = 32) (hb : b.length = 32) (w : World) (ht : Tabs w) :
    Calls Tryd.prog 18 #[hashV a, hashV b] w fun e w' => e = .returned (hashV (Tree.node a b)) ∧ Below w.heap.size w w' := by
  have HT := Lib.hid ht
  clear ht
  have C1 := Lib.hid (fun w' h => sum_c (Tree.nodeS a b) (by rw [nodeS_size a b ha hb]; omega) w' h)
  have hl : (Tree.node a b).length = 32 := (node_hash a b).1
  have he : Sha.sum (Tree.nodeS a b) = Tree.node a b := rfl
  have hn : Tree.nodeS a b = ⟨#[1]⟩ ++ strOfNums a ++ strOfNums b := rfl
  rw [he] at C1
  obtain ⟨x, hx⟩ : ∃ x, Tree.nodeS a b = x := ⟨_, rfl⟩
  obtain ⟨l, hl0⟩ : ∃ l, Tree.node a b = l := ⟨_, rfl⟩
  obtain ⟨y, hy⟩ : ∃ y, (⟨#[1]⟩ : ByteArray) ++ strOfNums a = y := ⟨_, rfl⟩
  rw [hx] at C1 hn
  rw [hl0] at C1 hl ⊢
  rw [hy] at hn
  have sa : (strOfNums a).size = 32 := by rw [strOfNums_size, ha]
  have sb : (strOfNums b).size = 32 := by rw [strOfNums_size, hb]
  have k0 : ∀ w, (Op.stringOp .add ⟨#[1]⟩ (strOfNums a)).run Tryd.prog w = .ok (.string y) w := fun w => by rw [run_string_add_sum w _ _ (by have : (⟨#[1]⟩ : ByteArray).size = 1 := rfl; omega), hy]
  have sy : y.size = 33 := by rw [← hy, ByteArray.size_append, sa]; rfl
  have k1 : ∀ w, (Op.stringOp .add y (strOfNums b)).run Tryd.prog w = .ok (.string x) w := fun w => by rw [run_string_add_sum w _ _ (by omega), ← hn]
  have HL := Lib.hid hl
  obtain ⟨cs, hcs⟩ : ∃ cs, (a.map (Value.int .u8)).toArray = cs := ⟨_, rfl⟩
  obtain ⟨ds, hds⟩ : ∃ ds, (b.map (Value.int .u8)).toArray = ds := ⟨_, rfl⟩
  have zc : cs.size = 32 := by rw [← hcs]; simp [ha]
  have zd : ds.size = 32 := by rw [← hds]; simp [hb]
  have HA := Lib.hid (And.intro ha (And.intro hb (And.intro hcs hds)))
  unfold hashV
  rw [hcs, hds]
  clear he hx hl0 hl hn hy sa sb sy ha hb hcs hds
  go_enter Tryd.func18, Tryd.ntmps18
  go_wp2_with fail
  generalize hW : (((w.alloc (.cells cs _)).alloc (.cells ds _)).alloc _) = W
  have hM0 : Hid (JnW w a b W) := by rw [← hW]; exact Lib.hid (jnW_start _ _ _ _ _ _ HA.out.2.2.1 HA.out.2.2.2 (by rfl))
  have ⟨q1, q2⟩ := hM0.out.drew.str HA.out.1 HA.out.2.1
  have ⟨q3, q4⟩ := hM0.out.str HA.out.1 HA.out.2.1
  have hnn : (List.map (Value.int .u8) l).length = 32 := by rw [List.length_map, HL.out]
  have hll := HL.out
  unfold hashV at C1
  clear hW zc zd
  go_region_law (first
    | (go_simp; go_at_call 36; refine (C1.out _ (HT.out.below (by first | exact hM0.out.2.2.2 | exact hM0.out.drew.2.2.2))).mono ?_; rintro e w1 ⟨rfl, hb⟩; have hM : Hid (JnW w a b w1) := Lib.hid (JnW.below (by first | exact hM0.out | exact hM0.out.drew) hb); have hst := hM.out.2.2.1.storeCells (P := Tryd.prog) l HL.out; clear hb))
  all_goals
    go_wp2
    exact bodyPost_ret (Blk.result (hM.out.2.2.1.row l) Tryd.results18 _ rfl 32 5 (by kernel_rfl) (by rw [HL.out]; kernel_rfl)) rfl ⟨rfl, Below.setRow hM.out.2.2.2 (by omega) _⟩

set_option maxRecDepth 100000 in
set_option maxHeartbeats 1000000 in
theorem refNode_c (a b : List Int) (ha : a.length = 32) (hb : b.length = 32) (w : World) :
    Calls Tryd.prog 19 #[hashV a, hashV b] w fun e w' => e = .returned (hashV (Tree.node a b)) ∧ Below w.heap.size w w' := by
  have C1 := Lib.hid (fun w' => refSum_c (Tree.nodeS a b) (by rw [nodeS_size a b ha hb]; omega) w')
  have hl : (Tree.node a b).length = 32 := (node_hash a b).1
  have he : Sha.sum (Tree.nodeS a b) = Tree.node a b := rfl
  have hn : Tree.nodeS a b = ⟨#[1]⟩ ++ strOfNums a ++ strOfNums b := rfl
  rw [he] at C1
  obtain ⟨x, hx⟩ : ∃ x, Tree.nodeS a b = x := ⟨_, rfl⟩
  obtain ⟨l, hl0⟩ : ∃ l, Tree.node a b = l := ⟨_, rfl⟩
  obtain ⟨y, hy⟩ : ∃ y, (⟨#[1]⟩ : ByteArray) ++ strOfNums a = y := ⟨_, rfl⟩
  rw [hx] at C1 hn
  rw [hl0] at C1 hl ⊢
  rw [hy] at hn
  have sa : (strOfNums a).size = 32 := by rw [strOfNums_size, ha]
  have sb : (strOfNums b).size = 32 := by rw [strOfNums_size, hb]
  have k0 : ∀ w, (Op.stringOp .add ⟨#[1]⟩ (strOfNums a)).run Tryd.prog w = .ok (.string y) w := fun w => by rw [run_string_add_sum w _ _ (by have : (⟨#[1]⟩ : ByteArray).size = 1 := rfl; omega), hy]
  have sy : y.size = 33 := by rw [← hy, ByteArray.size_append, sa]; rfl
  have k1 : ∀ w, (Op.stringOp .add y (strOfNums b)).run Tryd.prog w = .ok (.string x) w := fun w => by rw [run_string_add_sum w _ _ (by omega), ← hn]
  have HL := Lib.hid hl
  obtain ⟨cs, hcs⟩ : ∃ cs, (a.map (Value.int .u8)).toArray = cs := ⟨_, rfl⟩
  obtain ⟨ds, hds⟩ : ∃ ds, (b.map (Value.int .u8)).toArray = ds := ⟨_, rfl⟩
  have zc : cs.size = 32 := by rw [← hcs]; simp [ha]
  have zd : ds.size = 32 := by rw [← hds]; simp [hb]
  have HA := Lib.hid (And.intro ha (And.intro hb (And.intro hcs hds)))
  unfold hashV
  rw [hcs, hds]
  clear he hx hl0 hl hn hy sa sb sy ha hb hcs hds
  go_enter Tryd.func19, Tryd.ntmps19
  go_wp2_with fail
  generalize hW : (((w.alloc (.cells cs _)).alloc (.cells ds _)).alloc _) = W
  have hM0 : Hid (JnW w a b W) := by rw [← hW]; exact Lib.hid (jnW_start _ _ _ _ _ _ HA.out.2.2.1 HA.out.2.2.2 (by rfl))
  have ⟨q1, q2⟩ := hM0.out.drew.str HA.out.1 HA.out.2.1
  have ⟨q3, q4⟩ := hM0.out.str HA.out.1 HA.out.2.1
  have hnn : (List.map (Value.int .u8) l).length = 32 := by rw [List.length_map, HL.out]
  have hll := HL.out
  unfold hashV at C1
  clear hW zc zd
  go_region_law (first
    | (go_simp; go_at_call 37; refine (C1.out _).mono ?_; rintro e w1 ⟨rfl, hb⟩; have hM : Hid (JnW w a b w1) := Lib.hid (JnW.below (by first | exact hM0.out | exact hM0.out.drew) hb); have hst := hM.out.2.2.1.storeCells (P := Tryd.prog) l HL.out; clear hb))
  all_goals
    go_wp2
    exact bodyPost_ret (Blk.result (hM.out.2.2.1.row l) Tryd.results19 _ rfl 32 5 (by kernel_rfl) (by rw [HL.out]; kernel_rfl)) rfl ⟨rfl, Below.setRow hM.out.2.2.2 (by omega) _⟩

theorem wrap64 (x : Int) (h0 : -9223372036854775808 ≤ x) (h1 : x ≤ 9223372036854775807) : IntKind.i64.wrap x = x := by rw [IntKind.wrap_i64]; omega

set_option maxRecDepth 100000 in
set_option maxHeartbeats 1000000 in
theorem half_c (n : Nat) (hn : (n : Int) ≤ 9223372036854775807) (w : World) :
    Calls Tryd.prog 39 #[.int .i64 (n : Int)] w fun e w' => e = .returned (.int .i64 ((Tree.half n : Nat) : Int)) ∧ w' = w := by
  obtain ⟨r, hr⟩ : ∃ r, Tree.half n = r := ⟨_, rfl⟩
  have HN := Lib.hid hn
  have HR := Lib.hid hr
  rw [hr]
  clear hr hn
  go_enter Tryd.func39, Tryd.ntmps39
  go_wp2_with fail
  go_loopw [3, 4] (fun k i wr => ∃ (j q : Nat), j ≤ 62 ∧ i = .int .i64 j ∧ k = .int .i64 q ∧ 1 ≤ q ∧ Hid (Tree.halfK (62 - j) q n = r ∧ (q : Int) ≤ 9223372036854775807) ∧ w = wr) (fun _ i _ => 62 - (intOf i).toNat)
  case atStart => exact ⟨0, 1, by omega, rfl, rfl, by omega, Lib.hid ⟨HR.out, by omega⟩, rfl⟩
  clear HR
  case round =>
    obtain ⟨j, q, hj, rfl, rfl, hq, hK, rfl⟩ := hrel
    have z1 : IntKind.i64.wrap ((n : Int) - (q : Int)) = (n : Int) - (q : Int) := wrap64 _ (by have := hK.out.2; omega) (by have := HN.out; omega)
    by_cases hlt : j < 62
    · by_cases hk : q < n - q
      · have z2 : IntKind.i64.wrap ((q : Int) * 2) = (q : Int) * 2 := wrap64 _ (by omega) (by have := HN.out; omega)
        have c1 : ¬ (q : Int) ≥ (n : Int) - (q : Int) := by omega
        have HK := Lib.hid (And.intro hlt hk)
        clear hlt hk
        have hlt := HK.out.1
        go_wp2_with fail
        exact ⟨⟨j + 1, q * 2, HK.out.1, by go_num, by go_num, by omega, Lib.hid ⟨by have h1 := hK.out.1; have h2 := HK.out; rw [show 62 - j = (62 - (j + 1)) + 1 by omega, Tree.halfK, if_pos h2.2] at h1; exact h1, by have h2 := HK.out; have := HN.out; omega⟩, trivial⟩, by have := HK.out.1; simp only [intOf]; omega⟩
      · have c1 : (q : Int) ≥ (n : Int) - (q : Int) := by omega
        have e : q = r := by rw [← hK.out.1, Tree.halfK_end q n hk]
        subst e
        go_wp2_with fail
        go_ret
        exact ⟨rfl, rfl⟩
    · obtain rfl : j = 62 := by omega
      have e : q = r := by rw [← hK.out.1]; rfl
      subst e
      go_wp2_with fail
      go_ret
      exact ⟨rfl, rfl⟩

set_option maxRecDepth 100000 in
set_option maxHeartbeats 1000000 in
theorem refHalf_c (n : Nat) (hn : (n : Int) ≤ 9223372036854775807) (w : World) :
    Calls Tryd.prog 40 #[.int .i64 (n : Int)] w fun e w' => e = .returned (.int .i64 ((Tree.half n : Nat) : Int)) ∧ w' = w := by
  obtain ⟨r, hr⟩ : ∃ r, Tree.half n = r := ⟨_, rfl⟩
  have HN := Lib.hid hn
  have HR := Lib.hid hr
  rw [hr]
  clear hr hn
  go_enter Tryd.func40, Tryd.ntmps40
  go_wp2_with fail
  go_loopw [3] (fun k wr => ∃ (j q : Nat), j ≤ 62 ∧ k = .int .i64 q ∧ 1 ≤ q ∧ Hid (Tree.halfK (62 - j) q n = r ∧ (q : Int) ≤ 9223372036854775807 ∧ q * 2 ^ (62 - j) = 2 ^ 62) ∧ w = wr) (fun k _ => n - (intOf k).toNat)
  case atStart => exact ⟨0, 1, by omega, rfl, by omega, Lib.hid ⟨HR.out, by omega, by decide⟩, rfl⟩
  clear HR
  case round =>
    obtain ⟨j, q, hj, rfl, hq, hK, rfl⟩ := hrel
    have z1 : IntKind.i64.wrap ((n : Int) - (q : Int)) = (n : Int) - (q : Int) := wrap64 _ (by have := hK.out.2; omega) (by have := HN.out; omega)
    by_cases hk : q < n - q
    · have z2 : IntKind.i64.wrap ((q : Int) * 2) = (q : Int) * 2 := wrap64 _ (by omega) (by have := HN.out; omega)
      have c1 : (q : Int) < (n : Int) - (q : Int) := by omega
      have hlt : j < 62 := by
        have h3 := hK.out.2.2
        have h4 := HN.out
        by_cases h : j < 62
        · exact h
        · obtain rfl : j = 62 := by omega
          simp at h3
          omega
      have HK := Lib.hid (And.intro hlt hk)
      clear hlt hk
      go_wp2_with fail
      exact ⟨⟨j + 1, q * 2, HK.out.1, by go_num, by omega, Lib.hid ⟨by have h1 := hK.out.1; have h2 := HK.out; rw [show 62 - j = (62 - (j + 1)) + 1 by omega, Tree.halfK, if_pos h2.2] at h1; exact h1, by have h2 := HK.out; have := HN.out; omega, by have h3 := hK.out.2.2; have h2 := HK.out.1; rw [show 62 - j = (62 - (j + 1)) + 1 by omega, Nat.pow_succ] at h3; rw [← h3, Nat.mul_assoc, Nat.mul_comm 2]⟩, trivial⟩, by have := HK.out.2; simp only [intOf]; omega⟩
    · have c1 : ¬ (q : Int) < (n : Int) - (q : Int) := by omega
      have e : q = r := by rw [← hK.out.1, Tree.halfK_end q n hk]
      subst e
      go_wp2_with fail
      go_ret
      exact ⟨rfl, rfl⟩
end Go.Proofs.YtkjdfjpfghpofaaDoor
