/- The laws: DigestBits. -/
import Derived.Test.YtjhljkcbbipeeaaDoorGw
import Derived.Lib.ConvBytes
namespace Go.Proofs.YtjhljkcbbipeeaaDoor
open Go.RowKit

theorem Blk.range {k : IntKind} {w : World} {b : Nat} {T : TypeId} {l : List Int} (h : Blk k w b T l) : w.rangeAt b 0 (List.map (Value.int k) l) := fun j v hv => by
  rw [Nat.zero_add, cell_of_row _ _ _ _ _ _ h]
  simpa using hv
/-- The bytes of a string. -/
def bytesOf (x : ByteArray) : List Int := x.data.toList.map fun b => (b.toNat : Int)
theorem bytesOf_length (x : ByteArray) : (bytesOf x).length = x.size := by simp [bytesOf]
theorem bytesW (w : World) (x : ByteArray) : RowB .u8 (Lib.bytesWorld w 5 x) w.heap.size (bytesOf x) ∧ Below w.heap.size w (Lib.bytesWorld w 5 x) ∧ w.heap.size < (Lib.bytesWorld w 5 x).heap.size := by
  refine ⟨fun i hi => ?_, ?_, ?_⟩
  · rw [bytesOf_length] at hi
    refine ⟨?_, ?_⟩
    · rw [Lib.bytesWorld_cell w _ x i hi]
      have hi3 : i < x.data.size := hi
      simp [bytesOf, List.getD_eq_getElem?_getD, List.getElem?_eq_getElem hi3]
    · have hs : i < (Lib.bytesCells w 5 x).size := by simp [Lib.bytesCells]; omega
      simp [World.frozen?, Lib.bytesWorld_at_new]
      omega
  · exact ⟨rfl, by simp [Lib.bytesWorld, World.freeze, World.alloc, World.drew, -World.alloc_eq, -World.drew_eq], rfl, by rw [Lib.bytesWorld_size]; omega, fun i hi => Lib.bytesWorld_at_old w _ x i hi⟩
  · rw [Lib.bytesWorld_size]; omega

set_option maxRecDepth 100000 in
set_option maxHeartbeats 2000000 in
theorem digestBits_c (s : ByteArray) (bit : Int) (_ : -9223372036854775808 ≤ bit ∧ bit ≤ 9223372036854775807) (w : World) (ht : Tabs w) :
    Calls Tryd.prog 9 #[.string s, .int .i64 bit] w fun e w' => e = .returned (.bool true) ∧ Below w.heap.size w w' := by
  have HT := Lib.hid ht
  clear ht
  obtain ⟨y, hy, hys⟩ : ∃ y : ByteArray, y.size ≤ 200 ∧ ((s.size : Int) ≤ 200 ∧ s = y ∨ ¬ (s.size : Int) ≤ 200 ∧ s.extract 0 200 = y) := by
    by_cases h : (s.size : Int) ≤ 200
    · exact ⟨s, by omega, .inl ⟨h, rfl⟩⟩
    · exact ⟨s.extract 0 200, by simp; omega, .inr ⟨h, rfl⟩⟩
  obtain ⟨x, hx⟩ : ∃ x, y ++ (⟨#[101, 110, 100]⟩ : ByteArray) = x := ⟨_, rfl⟩
  have hxs : x.size = y.size + 3 := by rw [← hx, ByteArray.size_append]; rfl
  have k0 : ∀ w, (Op.stringOp .add y ⟨#[101, 110, 100]⟩).run Tryd.prog w = .ok (.string x) w := fun w => by rw [run_string_add_sum w _ _ (by have : (⟨#[101, 110, 100]⟩ : ByteArray).size = 3 := rfl; omega), hx]
  have k1 : ∀ w, (convert 9 36 (.string x)).run Tryd.prog w = .ok (.slice (some ⟨w.heap.size, 0, none⟩) x.size (grownCap w x.size 0 5)) (Lib.bytesWorld w 5 x) := fun w => Lib.run_convert_string_bytes w _ _ _ x Tryd.underlying9 (by kernel_rfl) (by kernel_rfl)
  obtain ⟨n, hn⟩ : ∃ n, x.size = n := ⟨_, rfl⟩
  rw [hn] at hxs k1
  have CM := Lib.hid (fun w' => mod_any bit (8 * (n : Int)) (by omega) (by omega) w')
  have m0 := Int.emod_nonneg bit (b := 8 * (n : Int)) (by omega)
  have m1 := Int.emod_lt_of_pos bit (b := 8 * (n : Int)) (by omega)
  obtain ⟨k, hk⟩ : ∃ k : Nat, bit % (8 * (n : Int)) = (k : Int) := ⟨(bit % (8 * (n : Int))).toNat, by omega⟩
  rw [hk] at CM m0 m1
  have HN := Lib.hid (And.intro hn (And.intro hxs hy))
  have z1 : (n : Int) ≤ 203 := by omega
  have z2 : (k : Int) / 8 < (n : Int) := by omega
  clear hx hxs hy hk hn
  rcases hys with ⟨hs, rfl⟩ | ⟨hs, hx0⟩
  all_goals
    go_enter Tryd.func9, Tryd.ntmps9
    go_wp2_with fail
    refine (sanity_c _ HT.out).mono ?_; rintro e w1 ⟨rfl, hb⟩
    have B1 := Lib.hid hb; clear hb
    go_wp2_with fail
    obtain ⟨r1, r2, r3⟩ := bytesW w1 x
    obtain ⟨w2, hw2⟩ : ∃ w2, Lib.bytesWorld w1 5 x = w2 := ⟨_, rfl⟩
    obtain ⟨c, hc⟩ : ∃ c, grownCap w1 n 0 5 = c := ⟨_, rfl⟩
    rw [hw2, hc]
    rw [hw2] at r1 r2 r3
    have hl := bytesOf_length x
    rw [HN.out.1] at hl
    obtain ⟨l, hl2⟩ : ∃ l, bytesOf x = l := ⟨_, rfl⟩
    rw [hl2] at r1 hl
    have hk8 : k / 8 < l.length := by omega
    have hc1 := (r1 (k / 8) hk8).1
    have hf1 := (r1 (k / 8) hk8).2
    have HR := Lib.hid (And.intro r1 (And.intro (B1.out.trans (r2.mono B1.out.size)) (And.intro r3 (And.intro hl hk8))))
    clear hw2 hc r1 r2 r3 hl2 hl hk8
    go_wp2_with fail
    refine (CM.out _).mono ?_; rintro e w3 ⟨rfl, rfl⟩
    go_wp2_with fail
    go_cut [10] (fun _ wx => Hid (∃ v, RowB .u8 wx w1.heap.size (l.set (k / 8) v) ∧ Below w.heap.size w wx ∧ w1.heap.size < wx.heap.size))
    case first =>
      go_region
      all_goals
        go_wp2
        go_meet
        case rel => exact Lib.hid ⟨_, RowB.drewN (HR.out.1.set (k / 8) _ HR.out.2.2.2.2) 1, bdn (HR.out.2.1.setCell B1.out.size _) 1, by have := HR.out.2.2.1; simpa using this⟩
    case rest =>
      have hlt := HR.out.2.2.1
      have hlen := HR.out.2.2.2.1
      obtain ⟨v, hR, hB, hbs⟩ := hcut.out
      obtain ⟨l2, hl2⟩ : ∃ l2, l.set (k / 8) v = l2 := ⟨_, rfl⟩
      have hn2 : l2.length = n := by rw [← hl2, List.length_set]; exact hlen
      rw [hl2] at hR
      clear hl2 hlt hlen hc1 hf1 hcut HR
      have kb := hR.str (P := Tryd.prog) (cap := c) hn2 36 9 5 (by kernel_rfl) (by kernel_rfl) (by kernel_rfl)
      have KB : Hid (∀ w', RowB .u8 w' w1.heap.size l2 → (convert 36 9 (.slice (some ⟨w1.heap.size, 0, none⟩) n c)).run Tryd.prog w' = .ok (.string (strOfNums l2)) w') := Lib.hid (fun w' h => h.str (P := Tryd.prog) (cap := c) hn2 36 9 5 (by kernel_rfl) (by kernel_rfl) (by kernel_rfl))
      have hx2 : (strOfNums l2).size ≤ 203 := by rw [strOfNums_size]; omega
      have hh := Sha.sum_hash (strOfNums l2)
      have C1 := Lib.hid (fun w' h => sum_c (strOfNums l2) (by omega) w' h)
      have C2 := Lib.hid (fun w' => refSum_c (strOfNums l2) (by omega) w')
      obtain ⟨x2, ex2⟩ : ∃ x2, strOfNums l2 = x2 := ⟨_, rfl⟩
      rw [ex2] at C1 C2 kb KB hh
      obtain ⟨h, eh⟩ : ∃ h, Sha.sum x2 = h := ⟨_, rfl⟩
      rw [eh] at C1 C2 hh
      have hq := fun w' => hash_eq h h hh.1 hh.1 w'
      simp only [beq_self_eq_true] at hq
      have hu := Tryd.underlying24
      have hi := (show (Tryd.prog.info? 24).map (·.size) = some (List.map (Value.int .u8) h).length by rw [List.length_map, hh.1]; kernel_rfl)
      have HR := Lib.hid (And.intro hR (And.intro hbs (And.intro hB hh)))
      clear hR hbs hB hh ex2 eh hx2 hn2
      unfold hashV at C1 C2
      go_wp2_with (first
        | (go_at_call 12; refine (C1.out _ (HT.out.below HR.out.2.2.1)).mono ?_; rintro e w4 ⟨rfl, hb⟩; have hN : Hid (RowB .u8 w4 w1.heap.size l2 ∧ Below w.heap.size w w4 ∧ w1.heap.size < w4.heap.size) := Lib.hid ⟨HR.out.1.below hb HR.out.2.1, HR.out.2.2.1.trans (hb.mono HR.out.2.2.1.size), Nat.lt_of_lt_of_le HR.out.2.1 hb.size⟩; clear hb)
        | refine store_blk (zeros_new w4 _ _ .u8 32 _ rfl (by rfl)) rfl _ _ rfl rfl h rfl HR.out.2.2.2.1 (by kernel_rfl) ?_)
      generalize hW : ((w4.alloc _).setRow _ _) = W
      have hE : Blk .u8 W w4.heap.size 24 h := by rw [← hW]; exact (zeros_new w4 _ _ .u8 32 _ rfl (by rfl)).row h
      have hF : Below w4.heap.size w4 W := by rw [← hW]; exact Below.setRow ((Below.refl _ w4).alloc (Nat.le_refl _) _) (Nat.le_refl _) _
      have hM : Hid (Blk .u8 W w4.heap.size 24 h ∧ RowB .u8 W w1.heap.size l2 ∧ Below w.heap.size w W) := Lib.hid ⟨hE, hN.out.1.below hF hN.out.2.2, hN.out.2.1.trans (hF.mono hN.out.2.1.size)⟩
      have hD : Hid (Blk .u8 W.drew w4.heap.size 24 h ∧ RowB .u8 W.drew w1.heap.size l2 ∧ w1.heap.size < W.drew.heap.size ∧ Below w.heap.size w W.drew) := Lib.hid ⟨hM.out.1, hM.out.2.1, Nat.lt_of_lt_of_le hN.out.2.2 hF.size, hM.out.2.2.drew⟩
      clear hW hE hF kb
      go_region_held3 (fun w' => w'.rangeAt w4.heap.size 0 (List.map (Value.int .u8) h) ∧ (convert 36 9 (.slice (some ⟨w1.heap.size, 0, none⟩) n c)).run Tryd.prog w' = .ok (.string x2) w') (first | exact ⟨hM6.out.1.range, KB.out _ hM6.out.2.1⟩ | exact ⟨hD.out.1.range, KB.out _ hD.out.2.1⟩ | exact ⟨hM.out.1.range, KB.out _ hM.out.2.1⟩)
        (first
          | (go_at_call 13; refine (C2.out _).mono ?_; rintro e w6 ⟨rfl, hb⟩; have hM6 : Hid (Blk .u8 w6 w4.heap.size 24 h ∧ RowB .u8 w6 w1.heap.size l2 ∧ Below w.heap.size w w6) := Lib.hid ⟨hD.out.1.below hb hD.out.1.lt, hD.out.2.1.below hb hD.out.2.2.1, (hD.out.2.2.2).trans (hb.mono hD.out.2.2.2.size)⟩; clear hb))
      all_goals
        go_wp2
        go_ret
        exact ⟨rfl, hM6.out.2.2⟩
end Go.Proofs.YtjhljkcbbipeeaaDoor
