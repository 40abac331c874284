/- The reference of layer 1: over for all rows; common. Conditions: the rows hold digits; for over, the divisor has no zero at its end and is not zero. -/
import Derived.Test.YtnccllelmbcdcaaGreatDoorRh
import Derived.Test.YtnccllelmbcdcaaGreatDoorLow
import Derived.Test.YtnccllelmbcdcaaGreatDoorWa
namespace Go.Proofs.YtnccllelmbcdcaaGreatDoor
open Go.RowKit

set_option maxHeartbeats 1600000 in
theorem over_none (p : Option Addr) (m d : Nat) (w : World) :
    Calls Tryz.prog 74 #[.slice none 0 0, .slice p m d] w fun e w' => ∃ v, e = .returned (.tuple #[v, .slice none 0 0]) ∧ RowV w' v [] ∧ Below w.heap.size w w' := by
  obtain ⟨i0, hi, hz0, hz1, hz2⟩ := info_parts Ref.info3
  go_enter Tryz.func74, Tryz.ntmps74
  go_wp2_with (at_make; refine wpList_make_full _ rfl _ _ 72 rfl w.heap.size 3 i0 (.int .i64 0) 1 Tryz.underlying72 hi hz0 hz1 .i64 .i64 _ _ 0 rfl rfl (by first | rfl | omega) (by first | rfl | omega) (by rw [hz2]; omega) (by unfold maxLen; omega) (Nat.le_refl _) ?_; intro w0 hown0 hgrow0)
  have hown1 : Hid (w0.ownsRow w.heap.size 3 1 (.slice (some ⟨w.heap.size, 0, none⟩) 0 0) 0 (([] : List Int).map (Value.int .i64))) := Lib.hid (by
    have e : (([] : List Int)).map (Value.int .i64) = (madeCells (Value.int .i64 0).cells (0 * 1)).toList := by
      show _ = (madeCells #[Value.int .i64 0] (0 * 1)).toList
      rw [toList_madeCells_one]; rfl
    rw [e]; exact hown0)
  have hnx0 : Hid (Below w.heap.size w w0) := Lib.hid ((Below.refl _ _).grown hgrow0 (Nat.le_refl _) (fun j hj => by cases hj))
  clear hown0 hgrow0
  go_loopw [7, 8] (fun rv ix wr => rv = .slice none 0 0 ∧ ix = .int .i64 (-1) ∧ wr = w0) (fun _ _ _ => 0)
  case atStart => exact ⟨rfl, rfl, rfl⟩
  case round =>
    obtain ⟨rfl, rfl, rfl⟩ := hrel
    go_wp2_with (go_at_call 60; refine (trim_row _ [] _ (RowV.own hown1.out rfl)).mono ?_; rintro e w2 ⟨v2, rfl, hv, ⟨nq, rfl⟩, -⟩)
    go_ret2
    exact ⟨v2, rfl, by have := hv.drewN nq; rw [trimL_nil] at this; exact this, below_drewN hnx0.out nq⟩

theorem over_row (a b : Value) (x y : List Int) (w : World) (ha : RowV w a x) (hb : RowV w b y) (hn : x.length ≤ 100000) (hm : y.length ≤ 100000) (ox : Dig.okL x) (oy : Dig.okL y) (ty : Dig.Trim y) (hp : 0 < Dig.val y) :
    Calls Tryz.prog 74 #[a, b] w fun e w' => ∃ v l u s, e = .returned (.tuple #[v, u]) ∧ RowV w' v l ∧ Dig.okL l ∧ Dig.Trim l ∧ RowV w' u s ∧ Dig.okL s ∧ Dig.Trim s ∧ Dig.val x = Dig.val y * Dig.val l + Dig.val s ∧ Dig.val s < Dig.val y ∧ Below w.heap.size w w' := by
  rcases hb with ⟨rfl, rfl⟩ | ⟨b2, d, rfl, h2, hd1, hd2⟩
  · exact absurd hp (by decide)
  rcases ha with ⟨rfl, rfl⟩ | ⟨b1, c, rfl, h1, hc1, hc2⟩
  · refine (over_none _ _ d w).mono fun e w' ⟨v, he, hv, hb⟩ => ⟨v, [], .slice none 0 0, [], he, hv, Dig.okL_nil, .inl rfl, RowV.nil _, Dig.okL_nil, .inl rfl, by simp [Dig.val], hp, hb⟩
  · exact over_some b1 b2 c d x.length y.length x y rfl rfl (by omega) hm w h1 h2 hd1 hd2 ox oy ty hp

/-- The numbers that a slice of ints holds. -/
def readD (w : World) : Value → List Int
  | .slice (some a) n _ => (List.range n).map fun i => intOf ((w.cell? ⟨a.block, i, none⟩).getD (.int .i64 0))
  | _ => []
theorem readD_row {w : World} {v : Value} {l : List Int} (h : RowV w v l) : readD w v = l := by
  rcases h with ⟨rfl, rfl⟩ | ⟨b, cap, rfl, hc, _, _⟩
  · rfl
  · refine List.ext_getElem (by simp [readD]) fun i h1 h2 => ?_
    simp only [readD, List.getElem_map, List.getElem_range]
    rw [hc i h2]
    simp [intOf, h2]

theorem trim_len0 (v : Value) (l : List Int) (w : World) (h : RowV w v l) (ho : Dig.okL l) (hz : Dig.val l = 0) :
    Calls Tryz.prog 60 #[v] w fun e w' => ∃ q c, e = .returned (.slice q 0 c) ∧ ∃ nq, w' = w.drewN nq := by
  refine (trim_row v l w h).mono fun e w' ⟨v', he, hv, hw, _⟩ => ?_
  have ht : Dig.trimL l = [] := (Dig.trim_zero (Dig.trim_trimL ho)).2 (by rw [Dig.val_trimL]; exact hz)
  rw [ht] at hv
  rcases hv with ⟨rfl, _⟩ | ⟨b, cap, rfl, _⟩
  · exact ⟨_, _, he, hw⟩
  · exact ⟨_, _, he, hw⟩
theorem trim_pos (v : Value) (l : List Int) (w : World) (h : RowV w v l) (hz : Dig.val l ≠ 0) :
    Calls Tryz.prog 60 #[v] w fun e w' => ∃ (q : Option Addr) (k c : Nat), e = .returned (.slice q k c) ∧ (0 : Int) < (k : Int) ∧ RowV w (.slice q k c) (Dig.trimL l) ∧ ∃ nq, w' = w.drewN nq := by
  refine (trim_row v l w h).mono fun e w' ⟨v', he, hv, hw, _⟩ => ?_
  have ht : Dig.trimL l ≠ [] := fun h0 => hz (by rw [← Dig.val_trimL, h0]; rfl)
  have hv0 := hv
  rcases hv with ⟨rfl, h0⟩ | ⟨b, cap, rfl, _⟩
  · exact absurd h0 ht
  · exact ⟨_, _, _, he, by have := List.length_pos_iff.2 ht; omega, hv0, hw⟩

theorem rest_mod {X Y q s : Int} (h : X = Y * q + s) (h0 : 0 ≤ s) (h1 : s < Y) : s = X % Y ∧ q = X / Y := by
  have e1 : X % Y = s := by rw [h, Int.add_comm, Int.add_mul_emod_self_left, Int.emod_eq_of_lt h0 h1]
  have e2 : X / Y = q := by rw [h, Int.add_comm, Int.add_mul_ediv_left _ _ (by omega), Int.ediv_eq_zero_of_lt h0 h1]; omega
  exact ⟨e1.symm, e2.symm⟩

set_option maxHeartbeats 4000000 in
set_option maxRecDepth 1000000 in
theorem common_row (a b : Value) (x y : List Int) (w : World) (ha : RowV w a x) (hb : RowV w b y) (hn : x.length ≤ 100000) (hm : y.length ≤ 100000) (ox : Dig.okL x) (oy : Dig.okL y) :
    Calls Tryz.prog 73 #[a, b] w fun e w' => ∃ v l, e = .returned v ∧ RowV w' v l ∧ Dig.okL l ∧ Dig.Trim l ∧ Dig.val l = Num.gcdI (Dig.val x) (Dig.val y) ∧ l.length ≤ 100000 ∧ Below w.heap.size w w' := by
  have HA := Lib.hid ha; have HB := Lib.hid hb; have HL := Lib.hid (And.intro hn hm); have HO := Lib.hid (And.intro ox oy)
  clear ha hb hn hm ox oy
  go_enter Tryz.func73, Tryz.ntmps73
  go_wp2
  go_loopw [0, 1] (fun av bv wr => ∃ xs ys : List Int, Hid (RowV wr av xs) ∧ Hid (RowV wr bv ys) ∧ Hid (Dig.okL xs ∧ Dig.okL ys) ∧ Hid (xs.length ≤ 100000 ∧ ys.length ≤ 100000) ∧ Hid (Num.gcdI (Dig.val xs) (Dig.val ys) = Num.gcdI (Dig.val x) (Dig.val y)) ∧ Hid (Below w.heap.size w wr)) (fun _ bv wr => (Dig.val (readD wr bv)).toNat)
  case atStart => exact ⟨x, y, HA, HB, HO, HL, Lib.hid rfl, Lib.hid (Below.refl _ _)⟩
  case round =>
    obtain ⟨xs, ys, hA, hB, hO, hL, hG, hnx⟩ := hrel
    by_cases hz : Dig.val ys = 0
    · replace hz := Lib.hid hz
      go_wp2_with fail
      refine (trim_len0 _ ys _ hB.out hO.out.2 hz.out).mono ?_; rintro e w2 ⟨q, c, rfl, nq, rfl⟩
      go_wp2_with fail
      refine (trim_row _ xs _ (by exact hA.out)).mono ?_; rintro e w3 ⟨v3, rfl, hv3, ⟨nq3, rfl⟩, -⟩
      go_wp2
      go_ret
      refine ⟨v3, Dig.trimL xs, rfl, (by exact hv3), Dig.okL_trimL hO.out.1, Dig.trim_trimL hO.out.1, ?_, by have := trimL_len xs; have := hL.out.1; omega, ?_⟩
      · rw [← hG.out, hz.out, Num.gcd_zero _ (Dig.val_nonneg hO.out.1), Dig.val_trimL]
      · repeat' (first | exact hnx.out | exact below_drewN hnx.out _ | refine below_drewN ?_ _)
    · have hpos := Lib.hid (show 0 < Dig.val ys by have := Dig.val_nonneg hO.out.2; omega)
      replace hz := Lib.hid hz
      go_wp2_with fail
      refine (trim_pos _ ys _ hB.out hz.out).mono ?_; rintro e w2 ⟨q, k, c, rfl, hk, hv2, nq, rfl⟩
      go_wp2_with fail
      refine (trim_row _ xs _ (by exact hA.out)).mono ?_; rintro e w3 ⟨v3, rfl, hv3, ⟨nq3, rfl⟩, -⟩
      go_wp2_with fail
      refine (trim_row _ ys _ (by exact hB.out)).mono ?_; rintro e w4 ⟨v4, rfl, hv4, ⟨nq4, rfl⟩, -⟩
      go_wp2_with fail
      refine (over_row _ _ _ _ _ (by exact hv3) (by exact hv4) (by have := trimL_len xs; have := hL.out.1; omega) (by have := trimL_len ys; have := hL.out.2; omega) (Dig.okL_trimL hO.out.1) (Dig.okL_trimL hO.out.2) (Dig.trim_trimL hO.out.2) (by rw [Dig.val_trimL]; exact hpos.out)).mono ?_
      rintro e w5 ⟨v5, l5, u5, s5, rfl, hv5, ho5, ht5, hu5, hs5, hts5, hval5, hlt5, hb5⟩
      rw [Dig.val_trimL, Dig.val_trimL] at hval5
      rw [Dig.val_trimL] at hlt5
      have hb6 : Below wr.heap.size wr w5 := Below.trans (b := wr) (Below.refl _ _) ⟨hb5.os, hb5.tape, hb5.output, hb5.size, hb5.block⟩
      have hB5 := Lib.hid (hB.out.below hb6)
      have hN5 := Lib.hid (hnx.out.trans (hb6.mono hnx.out.size))
      have hM5 := Lib.hid (show (Dig.val (readD w5 u5)).toNat < (Dig.val (readD wr _)).toNat by
        rw [readD_row hu5, readD_row hB.out]; have := Dig.val_nonneg hs5; omega)
      have hG5 := Lib.hid (show Num.gcdI (Dig.val ys) (Dig.val s5) = Num.gcdI (Dig.val x) (Dig.val y) by
        rw [(rest_mod hval5 (Dig.val_nonneg hs5) hlt5).1, Num.gcd_step _ _ (Dig.val_nonneg hO.out.1) hpos.out]; exact hG.out)
      have hL5 := Lib.hid (show s5.length ≤ 100000 by have := len_of_lt hO.out.2 hts5 hlt5; have := hL.out.2; omega)
      have hu5 := Lib.hid hu5; have hs5 := Lib.hid hs5
      clear hval5 hlt5 hb5 hb6 hv5 ho5 ht5 hts5
      go_wp2
      case roundEnd => exact ⟨⟨ys, s5, hB5, hu5, Lib.hid ⟨hO.out.2, hs5.out⟩, Lib.hid ⟨hL.out.2, hL5.out⟩, hG5, hN5⟩, hM5.out⟩
end Go.Proofs.YtnccllelmbcdcaaGreatDoor
