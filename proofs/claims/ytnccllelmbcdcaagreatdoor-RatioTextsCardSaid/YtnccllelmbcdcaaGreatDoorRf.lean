/- The reference of layer 1: times. Conditions: the rows hold digits. -/
import Derived.Test.YtnccllelmbcdcaaGreatDoorRd
import Derived.Test.YtnccllelmbcdcaaGreatDoorRe
namespace Go.Proofs.YtnccllelmbcdcaaGreatDoor
open Go.RowKit

set_option maxHeartbeats 4000000 in
set_option maxRecDepth 1000000 in
theorem times_some (b1 b2 c d n m : Nat) (x y : List Int) (hx : x.length = n) (hy : y.length = m) (hn : n ≤ 1000000) (hm : m ≤ 1000000) (w : World) (h1 : HoldsD w b1 x) (h2 : HoldsD w b2 y) (ox : Dig.okL x) (oy : Dig.okL y) :
    Calls Tryz.prog 79 #[.slice (some ⟨b1, 0, none⟩) n c, .slice (some ⟨b2, 0, none⟩) m d] w fun e w' => ∃ v l, e = .returned v ∧ RowV w' v l ∧ Dig.okL l ∧ Dig.Trim l ∧ Dig.val l = Dig.val x * Dig.val y ∧ v ≠ .slice none 0 0 ∧ Below w.heap.size w w' := by
  obtain ⟨i0, hi, hz0, hz1, hz2⟩ := info_parts Ref.info3
  have H1 := Lib.hid h1; have H2 := Lib.hid h2; have O1 := Lib.hid ox; have O2 := Lib.hid oy; have L1 := Lib.hid hx; have L2 := Lib.hid hy; clear h1 h2 ox oy hx hy
  have e0 : IntKind.i64.wrap ((n : Int) + (m : Int)) = ((n + m : Nat) : Int) := by rw [IntKind.wrap_i64]; omega
  go_enter Tryz.func79, Tryz.ntmps79
  go_wp2_with (at_make; refine wpList_make_full _ rfl _ _ 72 rfl w.heap.size 3 i0 (.int .i64 0) 1 Tryz.underlying72 hi hz0 hz1 .i64 .i64 _ _ (n + m) rfl rfl (by first | exact e0 | (simp; omega) | omega) (by first | exact e0 | (simp; omega) | omega) (by rw [hz2]; omega) (by unfold maxLen; omega) (Nat.le_refl _) ?_; intro w0 hown0 hgrow0)
  have hown1 : Hid (w0.ownsRow w.heap.size 3 1 (.slice (some ⟨w.heap.size, 0, none⟩) (n + m) (n + m)) (n + m) ((List.replicate (n + m) (0 : Int)).map (Value.int .i64))) := Lib.hid (by
    have e : (List.replicate (n + m) (0 : Int)).map (Value.int .i64) = (madeCells (Value.int .i64 0).cells ((n + m) * 1)).toList := by
      show _ = (madeCells #[Value.int .i64 0] ((n + m) * 1)).toList
      rw [toList_madeCells_one, List.map_replicate, Nat.mul_one]
    rw [e]; exact hown0)
  have hnx0 : Hid (Below w.heap.size w w0) := Lib.hid ((Below.refl _ _).grown hgrow0 (Nat.le_refl _) (fun j hj => by cases hj))
  clear hown0 hgrow0 e0
  go_loopw [6] (fun ix wr => ∃ (k : Nat) (l : List Int), k ≤ n ∧ ix = .int .i64 k ∧ Hid (Mul1 x y l k 0 0) ∧ Hid (wr.ownsRow w.heap.size 3 1 (.slice (some ⟨w.heap.size, 0, none⟩) (n + m) (n + m)) (n + m) (l.map (Value.int .i64))) ∧ Hid (Below w.heap.size w wr)) (fun ix _ => n - (intOf ix).toNat)
  case atStart => exact ⟨0, _, Nat.zero_le _, rfl, Lib.hid (by have := Mul1.start x y; rw [L1.out, L2.out] at this; exact this), hown1, hnx0⟩
  case round =>
    obtain ⟨k, l, hk, rfl, hS, hown, hnx⟩ := hrel
    by_cases hin : k < n
    · have k1 : (k : Int) < (n : Int) := by omega
      go_wp2
      go_loopw [7, 8] (fun cv jx wi => ∃ (j : Nat) (s : List Int) (cc : Int), j ≤ m ∧ cv = .int .i64 cc ∧ jx = .int .i64 j ∧ Hid (Mul1 x y s k j cc) ∧ Hid (wi.ownsRow w.heap.size 3 1 (.slice (some ⟨w.heap.size, 0, none⟩) (n + m) (n + m)) (n + m) (s.map (Value.int .i64))) ∧ Hid (Below w.heap.size w wi)) (fun _ jx _ => m - (intOf jx).toNat)
      case atStart => exact ⟨0, l, 0, Nat.zero_le _, rfl, rfl, hS, hown, hnx⟩
      case round =>
        clear hS hown hnx
        obtain ⟨j, s, cc, hj, rfl, rfl, hS, hown, hnx⟩ := hrel
        have hsl : Hid (s.length = n + m) := Lib.hid (by have := hS.out.2.1; rw [L1.out, L2.out] at this; exact this)
        have c0 : 0 ≤ cc ∧ cc < 65536 := ⟨hS.out.2.2.1, hS.out.2.2.2.1⟩
        by_cases hjm : j < m
        · have j1 : (j : Int) < (m : Int) := by omega
          obtain ⟨p, hp⟩ : ∃ p, x.getD k 0 = p := ⟨_, rfl⟩
          obtain ⟨q, hq⟩ : ∃ q, y.getD j 0 = q := ⟨_, rfl⟩
          obtain ⟨o, ho⟩ : ∃ o, s.getD (k + j) 0 = o := ⟨_, rfl⟩
          have dg := hS.out.digit O1.out O2.out
          rw [hp, hq, ho] at dg
          have o0 : 0 ≤ o ∧ o < 65536 := by rw [← ho]; exact Dig.okL_getD hS.out.1 (k + j)
          have hc1 : wr.cell? ⟨b1, k, none⟩ = some (.int .i64 p) := by
            have hh := H1.out k (by rw [L1.out]; exact hin)
            rw [hp] at hh
            exact (hnx.out.cell (p := ⟨b1, k, none⟩) (World.block_lt_of_cell? w ⟨b1, k, none⟩ hh)).trans hh
          have hc2 : wr.cell? ⟨b2, j, none⟩ = some (.int .i64 q) := by
            have hh := H2.out j (by rw [L2.out]; exact hjm)
            rw [hq] at hh
            exact (hnx.out.cell (p := ⟨b2, j, none⟩) (World.block_lt_of_cell? w ⟨b2, j, none⟩ hh)).trans hh
          have hc3 : wr.cell? ⟨w.heap.size, k + j, none⟩ = some (.int .i64 o) := by
            rw [hown.out.cellAt (k + j) (by omega), List.getElem?_map, List.getElem?_eq_getElem (by rw [hsl.out]; omega)]
            rw [← ho, List.getD_eq_getElem?_getD, List.getElem?_eq_getElem (by rw [hsl.out]; omega)]; rfl
          have hfz : wr.frozen? ⟨w.heap.size, k + j, none⟩ = false := hown.out.frozenAt (k + j)
          have a1 : IntKind.i64.wrap ((k : Int) + (j : Int)) = (k : Int) + (j : Int) := by rw [IntKind.wrap_i64]; omega
          have a2 : (0 : Int) ≤ (k : Int) + (j : Int) := by omega
          have a3 : (k : Int) + (j : Int) < (n : Int) + (m : Int) := by omega
          obtain ⟨pq, hpq⟩ : ∃ z, p * q = z := ⟨_, rfl⟩
          rw [hpq] at dg
          have a4 : IntKind.i64.wrap (p * q) = pq := by rw [hpq, IntKind.wrap_i64]; omega
          have a5 : IntKind.i64.wrap (o + pq) = o + pq := by rw [IntKind.wrap_i64]; omega
          obtain ⟨D, hD⟩ : ∃ D, o + pq + cc = D := ⟨_, rfl⟩
          rw [hD] at dg
          have a6 : IntKind.i64.wrap (o + pq + cc) = D := by rw [hD, IntKind.wrap_i64]; omega
          have a7 : IntKind.i64.wrap (D.tmod 65536) = D % 65536 := by rw [Int.tmod_eq_emod_of_nonneg (by omega), IntKind.wrap_i64]; omega
          have a8 : D.tmod 65536 = D % 65536 := Int.tmod_eq_emod_of_nonneg (by omega)
          have a9 : IntKind.i64.wrap (D.tdiv 65536) = D / 65536 := by rw [Int.tdiv_eq_ediv_of_nonneg (by omega), IntKind.wrap_i64]; omega
          have hS2 := Lib.hid (hS.out.step O1.out O2.out (by rw [L1.out]; exact hin) (by rw [L2.out]; exact hjm) (d := D) (by rw [hp, hq, ho, hpq]; exact hD))
          have dg := Lib.hid dg; have hp := Lib.hid hp; have hq := Lib.hid hq; have ho := Lib.hid ho; have hpq := Lib.hid hpq; have hD := Lib.hid hD
          go_wp2
          go_quiet (fail)
          go_wp2
          case roundEnd => exact ⟨⟨j + 1, s.set (k + j) (D % 65536), _, by omega, rfl, by simp, hS2, Lib.hid (by rw [List.map_set]; exact (World.ownsRow.stored (w := wr.drewN nq) hown.out (k + j) _).1), Lib.hid ((below_drewN hnx.out nq).setCell (Nat.le_refl _) _)⟩, by simp [intOf]; omega⟩
        · have hkj : j = m := by omega
          subst hkj
          have j1 : ¬ (j : Int) < (j : Int) := by omega
          have a1 : IntKind.i64.wrap ((k : Int) + (j : Int)) = (k : Int) + (j : Int) := by rw [IntKind.wrap_i64]; omega
          have a2 : (0 : Int) ≤ (k : Int) + (j : Int) := by omega
          have a3 : (k : Int) + (j : Int) < (n : Int) + (j : Int) := by omega
          have hfz : wr.frozen? ⟨w.heap.size, k + j, none⟩ = false := hown.out.frozenAt (k + j)
          have hc3 : wr.cell? ⟨w.heap.size, k + j, none⟩ = some (.int .i64 (s.getD (k + j) 0)) := by
            rw [hown.out.cellAt (k + j) (by omega), List.getElem?_map, List.getElem?_eq_getElem (by rw [hsl.out]; omega)]
            rw [List.getD_eq_getElem?_getD, List.getElem?_eq_getElem (by rw [hsl.out]; omega)]; rfl
          have hst := Lib.hid (hown.out.stored (k + j) (.int .i64 cc)).1
          have hS2 := Lib.hid (by have z := hS.out; rw [← L2.out] at z; exact z.next (by rw [L1.out]; exact hin))
          go_wp2
          case roundEnd => exact ⟨⟨k + 1, s.set (k + j) cc, by omega, by simp, Lib.hid (by have z := hS2.out; rw [L2.out] at z; exact z), Lib.hid (by rw [List.map_set]; exact hst.out), Lib.hid (hnx.out.setCell (Nat.le_refl _) _)⟩, by simp [intOf]; omega⟩
    · have hkn : k = n := by omega
      have k1 : ¬ (k : Int) < (n : Int) := by omega
      have hd := Lib.hid (Mul1.done (x := x) (y := y) (L := l) (c := 0) (by rw [L1.out, ← hkn]; exact hS.out) rfl)
      have hll : l.length = n + m := by have := hS.out.2.1; rw [L1.out, L2.out] at this; exact this
      have hR := RowV.own hown.out hll.symm
      have hR := Lib.hid hR
      have hkn := Lib.hid hkn
      have hll := Lib.hid hll
      go_wp2_with (go_at_call 60; refine (trim_row _ l _ hR.out).mono ?_; rintro e w2 ⟨v2, rfl, hv, ⟨nq, rfl⟩, hnn⟩)
      go_ret
      exact ⟨v2, Dig.trimL l, rfl, hv.drewN nq, Dig.okL_trimL hd.out.1, Dig.trim_trimL hd.out.1, by rw [Dig.val_trimL]; exact hd.out.2, hnn (fun h => by cases h), below_drewN hnx.out nq⟩

set_option maxHeartbeats 800000 in
theorem by_some (b1 c n : Nat) (x : List Int) (q : Int) (hx : x.length = n) (hn : n ≤ 1000000) (w : World) (h1 : HoldsD w b1 x) (ox : Dig.okL x) (q0 : 0 ≤ q) (q1 : q < 65536) :
    Calls Tryz.prog 92 #[.slice (some ⟨b1, 0, none⟩) n c, .int .i64 q] w fun e w' => ∃ v l, e = .returned v ∧ RowV w' v l ∧ Dig.okL l ∧ Dig.Trim l ∧ Dig.val l = Dig.val x * q ∧ v ≠ .slice none 0 0 ∧ Below w.heap.size w w' := by
  have H1 := Lib.hid h1; have L1 := Lib.hid hx; have O1 := Lib.hid ox; have Q := Lib.hid (And.intro q0 q1); clear h1 hx ox q0 q1
  go_enter Tryz.func92, Tryz.ntmps92
  have hb : Hid (Below w.heap.size w (w.alloc (.cells #[.int .i64 q] 3))) := Lib.hid ((Below.refl _ _).alloc (Nat.le_refl _) _)
  have hq : Hid (HoldsD (w.alloc (.cells #[.int .i64 q] 3)) w.heap.size [q]) := Lib.hid (fun i hi => by
    have : i = 0 := by simp at hi; omega
    subst this; simp [go_sem])
  go_wp2_with (go_at_call 79; refine (times_some b1 w.heap.size _ _ _ 1 x [q] L1.out rfl hn (by decide) _ (H1.out.below hb.out) hq.out O1.out (Dig.okL_one Q.out)).mono ?_; rintro e w2 ⟨v2, l2, rfl, hv, ho, ht, hval, hnn, hbw⟩)
  go_ret
  exact ⟨v2, l2, rfl, hv, ho, ht, by rw [hval]; simp [Dig.val], hnn, hb.out.trans (hbw.mono hb.out.size)⟩
end Go.Proofs.YtnccllelmbcdcaaGreatDoor
