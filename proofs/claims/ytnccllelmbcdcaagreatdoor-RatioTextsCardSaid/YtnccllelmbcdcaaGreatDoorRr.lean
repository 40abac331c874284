/- The reference of layer 1: times and minus for all rows, nil ones too. Conditions: the rows hold digits; for minus, the first number is not less than the second. -/
import Derived.Test.YtnccllelmbcdcaaGreatDoorRi
namespace Go.Proofs.YtnccllelmbcdcaaGreatDoor
open Go.RowKit

/-- Where a slice begins, and the numbers that it holds: if there are any, it is not nil. -/
def ReadD (w : World) (p : Option Addr) (l : List Int) : Prop := ∀ i, i < l.length → ∃ b, p = some ⟨b, 0, none⟩ ∧ w.cell? ⟨b, i, none⟩ = some (.int .i64 (l.getD i 0))
theorem RowV.reads {w : World} {v : Value} {l : List Int} (h : RowV w v l) : ∃ (p : Option Addr) (c : Nat), v = .slice p l.length c ∧ ReadD w p l := by
  rcases h with ⟨rfl, rfl⟩ | ⟨b, cap, rfl, hc, _, _⟩
  · exact ⟨_, _, rfl, fun i hi => by simp at hi⟩
  · exact ⟨_, _, rfl, fun i hi => ⟨b, rfl, hc i hi⟩⟩

set_option maxHeartbeats 4000000 in
set_option maxRecDepth 1000000 in
theorem times_shape (p q : Option Addr) (c d n m : Nat) (x y : List Int) (hx : x.length = n) (hy : y.length = m) (hn : n ≤ 1000000) (hm : m ≤ 1000000) (w : World) (h1 : ReadD w p x) (h2 : ReadD w q y) (ox : Dig.okL x) (oy : Dig.okL y) :
    Calls Tryz.prog 79 #[.slice p n c, .slice q m d] w fun e w' => ∃ v l, e = .returned v ∧ RowV w' v l ∧ Dig.okL l ∧ Dig.Trim l ∧ Dig.val l = Dig.val x * Dig.val y ∧ v ≠ .slice none 0 0 ∧ Below w.heap.size w w' := by
  obtain ⟨i0, hi, hz0, hz1, hz2⟩ := info_parts Ref.info3
  have H1 := Lib.hid h1; have H2 := Lib.hid h2; have O1 := Lib.hid ox; have O2 := Lib.hid oy; have L1 := Lib.hid hx; have L2 := Lib.hid hy; clear h1 h2 ox oy hx hy
  have e0 : IntKind.i64.wrap ((n : Int) + (m : Int)) = ((n + m : Nat) : Int) := by rw [IntKind.wrap_i64]; omega
  go_enter Tryz.func79, Tryz.ntmps79
  go_wp2_with (at_make; refine wpList_make_full _ rfl _ _ 72 rfl w.heap.size 3 i0 (.int .i64 0) 1 Tryz.underlying72 hi hz0 hz1 .i64 .i64 _ _ (n + m) rfl rfl (by first | exact e0 | (simp; omega) | omega) (by first | exact e0 | (simp; omega) | omega) (by rw [hz2]; omega) (by unfold maxLen; omega) (Nat.le_refl _) ?_; intro w0 hown0 hgrow0)
  have hown1 : Hid (w0.ownsRow w.heap.size 3 1 (.slice (some ⟨w.heap.size, 0, none⟩) (n + m) (n + m)) (n + m) ((List.replicate (n + m) (0 : Int)).map (Value.int .i64))) := Lib.hid (by
    have e : (List.replicate (n + m) (0 : Int)).map (Value.int .i64) = (madeCells (Value.int .i64 0).cells ((n + m) * 1)).toList := by
      show _ = (madeCells #[Value.int .i64 0] ((n + m) * 1)).toList
      rw [toList_madeCells_one, List.map_replicate, Nat.mul_one]
    rw [e]; exact hown0)
  have hnx0 : Hid (Below w.heap.size w w0) := Lib.hid ((Below.refl _ _).grown hgrow0 (Nat.le_refl _) (fun j hj => by cases hj))
  clear hown0 hgrow0 e0
  go_loopw [6] (fun ix wr => ∃ (k : Nat) (l : List Int), k ≤ n ∧ ix = .int .i64 k ∧ Hid (Mul1 x y l k 0 0) ∧ Hid (wr.ownsRow w.heap.size 3 1 (.slice (some ⟨w.heap.size, 0, none⟩) (n + m) (n + m)) (n + m) (l.map (Value.int .i64))) ∧ Hid (Below w.heap.size w wr)) (fun ix _ => n - (intOf ix).toNat)
  case atStart => exact ⟨0, _, Nat.zero_le _, rfl, Lib.hid (by have := Mul1.start x y; rw [L1.out, L2.out] at this; exact this), hown1, hnx0⟩
  case round =>
    obtain ⟨k, l, hk, rfl, hS, hown, hnx⟩ := hrel
    by_cases hin : k < n
    · have k1 : (k : Int) < (n : Int) := by omega
      go_wp2
      go_loopw [7, 8] (fun cv jx wi => ∃ (j : Nat) (s : List Int) (cc : Int), j ≤ m ∧ cv = .int .i64 cc ∧ jx = .int .i64 j ∧ Hid (Mul1 x y s k j cc) ∧ Hid (wi.ownsRow w.heap.size 3 1 (.slice (some ⟨w.heap.size, 0, none⟩) (n + m) (n + m)) (n + m) (s.map (Value.int .i64))) ∧ Hid (Below w.heap.size w wi)) (fun _ jx _ => m - (intOf jx).toNat)
      case atStart => exact ⟨0, l, 0, Nat.zero_le _, rfl, rfl, hS, hown, hnx⟩
      case round =>
        clear hS hown hnx
        obtain ⟨j, s, cc, hj, rfl, rfl, hS, hown, hnx⟩ := hrel
        have hsl : Hid (s.length = n + m) := Lib.hid (by have := hS.out.2.1; rw [L1.out, L2.out] at this; exact this)
        have c0 : 0 ≤ cc ∧ cc < 65536 := ⟨hS.out.2.2.1, hS.out.2.2.2.1⟩
        by_cases hjm : j < m
        · have j1 : (j : Int) < (m : Int) := by omega
          obtain ⟨b1, hb1, H1c⟩ := H1.out k (by rw [L1.out]; exact hin)
          obtain ⟨b2, hb2, H2c⟩ := H2.out j (by rw [L2.out]; exact hjm)
          subst hb1; subst hb2
          obtain ⟨p, hp⟩ : ∃ p, x.getD k 0 = p := ⟨_, rfl⟩
          obtain ⟨q, hq⟩ : ∃ q, y.getD j 0 = q := ⟨_, rfl⟩
          obtain ⟨o, ho⟩ : ∃ o, s.getD (k + j) 0 = o := ⟨_, rfl⟩
          have dg := hS.out.digit O1.out O2.out
          rw [hp, hq, ho] at dg
          have o0 : 0 ≤ o ∧ o < 65536 := by rw [← ho]; exact Dig.okL_getD hS.out.1 (k + j)
          have hc1 : wr.cell? ⟨b1, k, none⟩ = some (.int .i64 p) := by
            have hh := H1c
            rw [hp] at hh
            exact (hnx.out.cell (p := ⟨b1, k, none⟩) (World.block_lt_of_cell? w ⟨b1, k, none⟩ hh)).trans hh
          have hc2 : wr.cell? ⟨b2, j, none⟩ = some (.int .i64 q) := by
            have hh := H2c
            rw [hq] at hh
            exact (hnx.out.cell (p := ⟨b2, j, none⟩) (World.block_lt_of_cell? w ⟨b2, j, none⟩ hh)).trans hh
          have hc3 : wr.cell? ⟨w.heap.size, k + j, none⟩ = some (.int .i64 o) := by
            rw [hown.out.cellAt (k + j) (by omega), List.getElem?_map, List.getElem?_eq_getElem (by rw [hsl.out]; omega)]
            rw [← ho, List.getD_eq_getElem?_getD, List.getElem?_eq_getElem (by rw [hsl.out]; omega)]; rfl
          have hfz : wr.frozen? ⟨w.heap.size, k + j, none⟩ = false := hown.out.frozenAt (k + j)
          have a1 : IntKind.i64.wrap ((k : Int) + (j : Int)) = (k : Int) + (j : Int) := by rw [IntKind.wrap_i64]; omega
          have a2 : (0 : Int) ≤ (k : Int) + (j : Int) := by omega
          have a3 : (k : Int) + (j : Int) < (n : Int) + (m : Int) := by omega
          obtain ⟨pq, hpq⟩ : ∃ z, p * q = z := ⟨_, rfl⟩
          rw [hpq] at dg
          have a4 : IntKind.i64.wrap (p * q) = pq := by rw [hpq, IntKind.wrap_i64]; omega
          have a5 : IntKind.i64.wrap (o + pq) = o + pq := by rw [IntKind.wrap_i64]; omega
          obtain ⟨D, hD⟩ : ∃ D, o + pq + cc = D := ⟨_, rfl⟩
          rw [hD] at dg
          have a6 : IntKind.i64.wrap (o + pq + cc) = D := by rw [hD, IntKind.wrap_i64]; omega
          have a7 : IntKind.i64.wrap (D.tmod 65536) = D % 65536 := by rw [Int.tmod_eq_emod_of_nonneg (by omega), IntKind.wrap_i64]; omega
          have a8 : D.tmod 65536 = D % 65536 := Int.tmod_eq_emod_of_nonneg (by omega)
          have a9 : IntKind.i64.wrap (D.tdiv 65536) = D / 65536 := by rw [Int.tdiv_eq_ediv_of_nonneg (by omega), IntKind.wrap_i64]; omega
          have hS2 := Lib.hid (hS.out.step O1.out O2.out (by rw [L1.out]; exact hin) (by rw [L2.out]; exact hjm) (d := D) (by rw [hp, hq, ho, hpq]; exact hD))
          clear H1c H2c
          have dg := Lib.hid dg; have hp := Lib.hid hp; have hq := Lib.hid hq; have ho := Lib.hid ho; have hpq := Lib.hid hpq; have hD := Lib.hid hD
          go_wp2
          go_quiet (fail)
          go_wp2
          case roundEnd => exact ⟨⟨j + 1, s.set (k + j) (D % 65536), _, by omega, rfl, by simp, hS2, Lib.hid (by rw [List.map_set]; exact (World.ownsRow.stored (w := wr.drewN nq) hown.out (k + j) _).1), Lib.hid ((below_drewN hnx.out nq).setCell (Nat.le_refl _) _)⟩, by simp [intOf]; omega⟩
        · have hkj : j = m := by omega
          subst hkj
          have j1 : ¬ (j : Int) < (j : Int) := by omega
          have a1 : IntKind.i64.wrap ((k : Int) + (j : Int)) = (k : Int) + (j : Int) := by rw [IntKind.wrap_i64]; omega
          have a2 : (0 : Int) ≤ (k : Int) + (j : Int) := by omega
          have a3 : (k : Int) + (j : Int) < (n : Int) + (j : Int) := by omega
          have hfz : wr.frozen? ⟨w.heap.size, k + j, none⟩ = false := hown.out.frozenAt (k + j)
          have hc3 : wr.cell? ⟨w.heap.size, k + j, none⟩ = some (.int .i64 (s.getD (k + j) 0)) := by
            rw [hown.out.cellAt (k + j) (by omega), List.getElem?_map, List.getElem?_eq_getElem (by rw [hsl.out]; omega)]
            rw [List.getD_eq_getElem?_getD, List.getElem?_eq_getElem (by rw [hsl.out]; omega)]; rfl
          have hst := Lib.hid (hown.out.stored (k + j) (.int .i64 cc)).1
          have hS2 := Lib.hid (by have z := hS.out; rw [← L2.out] at z; exact z.next (by rw [L1.out]; exact hin))
          go_wp2
          case roundEnd => exact ⟨⟨k + 1, s.set (k + j) cc, by omega, by simp, Lib.hid (by have z := hS2.out; rw [L2.out] at z; exact z), Lib.hid (by rw [List.map_set]; exact hst.out), Lib.hid (hnx.out.setCell (Nat.le_refl _) _)⟩, by simp [intOf]; omega⟩
    · have hkn : k = n := by omega
      have k1 : ¬ (k : Int) < (n : Int) := by omega
      have hd := Lib.hid (Mul1.done (x := x) (y := y) (L := l) (c := 0) (by rw [L1.out, ← hkn]; exact hS.out) rfl)
      have hll : l.length = n + m := by have := hS.out.2.1; rw [L1.out, L2.out] at this; exact this
      have hR := RowV.own hown.out hll.symm
      have hR := Lib.hid hR
      have hkn := Lib.hid hkn
      have hll := Lib.hid hll
      go_wp2_with (go_at_call 60; refine (trim_row _ l _ hR.out).mono ?_; rintro e w2 ⟨v2, rfl, hv, ⟨nq, rfl⟩, hnn⟩)
      go_ret
      exact ⟨v2, Dig.trimL l, rfl, hv.drewN nq, Dig.okL_trimL hd.out.1, Dig.trim_trimL hd.out.1, by rw [Dig.val_trimL]; exact hd.out.2, hnn (fun h => by cases h), below_drewN hnx.out nq⟩

theorem times_row (a b : Value) (x y : List Int) (w : World) (ha : RowV w a x) (hb : RowV w b y) (hn : x.length ≤ 1000000) (hm : y.length ≤ 1000000) (ox : Dig.okL x) (oy : Dig.okL y) :
    Calls Tryz.prog 79 #[a, b] w fun e w' => ∃ v l, e = .returned v ∧ RowV w' v l ∧ Dig.okL l ∧ Dig.Trim l ∧ Dig.val l = Dig.val x * Dig.val y ∧ Below w.heap.size w w' := by
  obtain ⟨p, c, rfl, h1⟩ := ha.reads
  obtain ⟨q, d, rfl, h2⟩ := hb.reads
  exact (times_shape p q c d _ _ x y rfl rfl hn hm w h1 h2 ox oy).mono fun e w' ⟨v, l, k1, k2, k3, k4, k5, _, k6⟩ => ⟨v, l, k1, k2, k3, k4, k5, k6⟩

set_option maxHeartbeats 8000000 in
set_option maxRecDepth 1000000 in
theorem minus_shape (pp qq : Option Addr) (c d n m : Nat) (x y : List Int) (hx : x.length = n) (hy : y.length = m) (hn : n ≤ 1000000) (w : World) (h1 : ReadD w pp x) (h2 : ReadD w qq y) (ox : Dig.okL x) (oy : Dig.okL y) (ty : Dig.Trim y) (hle : Dig.val y ≤ Dig.val x) :
    Calls Tryz.prog 78 #[.slice pp n c, .slice qq m d] w fun e w' => ∃ v l, e = .returned v ∧ RowV w' v l ∧ Dig.okL l ∧ Dig.Trim l ∧ Dig.val l = Dig.val x - Dig.val y ∧ Below w.heap.size w w' := by
  obtain ⟨i0, hi, hz0, hz1, hz2⟩ := info_parts Ref.info3
  have H1 := Lib.hid h1; have H2 := Lib.hid h2; have O1 := Lib.hid ox; have O2 := Lib.hid oy; have L1 := Lib.hid hx; have L2 := Lib.hid hy; have T2 := Lib.hid ty; have LE := Lib.hid hle; clear h1 h2 ox oy hx hy ty hle
  go_enter Tryz.func78, Tryz.ntmps78
  go_wp2
  go_loopw [5, 6, 7] (fun v bo ix wr => ∃ (k : Nat) (l : List Int) (r : Int), k ≤ n ∧ bo = .int .i64 r ∧ ix = .int .i64 k ∧ Hid (Sub1 x y l k r) ∧ Hid (wr.ownsRow w.heap.size 3 1 v l.length (l.map (Value.int .i64))) ∧ Hid (Below w.heap.size w wr)) (fun _ _ ix _ => n - (intOf ix).toNat)
  case atStart => exact ⟨0, [], 0, Nat.zero_le _, rfl, rfl, Lib.hid (Sub1.start x y), Lib.hid (World.ownsRow_nil _ _ _ _), Lib.hid (Below.refl _ _)⟩
  case round =>
    obtain ⟨k, l, r, hk, rfl, rfl, hS, hown, hnx⟩ := hrel
    by_cases hin : k < n
    · obtain ⟨b1, hb1, H1c⟩ := H1.out k (by rw [L1.out]; exact hin)
      subst hb1
      obtain ⟨p, hp⟩ : ∃ p, x.getD k 0 = p := ⟨_, rfl⟩
      have p0 : 0 ≤ p ∧ p < 65536 := by rw [← hp]; exact Dig.okL_getD O1.out k
      have r0 : 0 ≤ r ∧ r ≤ 1 := by rcases hS.out.2.2.1 with h | h <;> omega
      have hc1 : wr.cell? ⟨b1, k, none⟩ = some (.int .i64 p) := by
        have hh := H1c
        rw [hp] at hh
        exact (hnx.out.cell (p := ⟨b1, k, none⟩) (World.block_lt_of_cell? w ⟨b1, k, none⟩ hh)).trans hh
      clear H1c
      have e1 : IntKind.i64.wrap (p - r) = p - r := by rw [IntKind.wrap_i64]; omega
      have st := Lib.hid (hS.out.step O1.out O2.out (by rw [L1.out]; exact hin))
      have k1 : (k : Int) < (n : Int) := by omega
      by_cases him : k < m
      · obtain ⟨b2, hb2, H2c⟩ := H2.out k (by rw [L2.out]; exact him)
        subst hb2
        obtain ⟨q, hq⟩ : ∃ q, y.getD k 0 = q := ⟨_, rfl⟩
        have q0 : 0 ≤ q ∧ q < 65536 := by rw [← hq]; exact Dig.okL_getD O2.out k
        have hc2 : wr.cell? ⟨b2, k, none⟩ = some (.int .i64 q) := by
          have hh := H2c
          rw [hq] at hh
          exact (hnx.out.cell (p := ⟨b2, k, none⟩) (World.block_lt_of_cell? w ⟨b2, k, none⟩ hh)).trans hh
        clear H2c
        have e2 : IntKind.i64.wrap (p - r - q) = p - r - q := by rw [IntKind.wrap_i64]; omega
        have e3 : IntKind.i64.wrap (p - r - q + 65536) = p - r - q + 65536 := by rw [IntKind.wrap_i64]; omega
        have k2 : (k : Int) < (m : Int) := by omega
        have hD := Lib.hid (show nextD x y k r = p - r - q by unfold nextD; rw [hp, hq])
        have hp := Lib.hid hp; have hq := Lib.hid hq
        by_cases hd : p - r - q < 0
        · clear hp
          go_wp2_with (first
            | (at_builtin; refine wpList_append_own _ rfl _ _ 72 rfl w.heap.size 3 i0 (.int .i64 0) 1 8 Tryz.underlying72 hi hz0 hz1 hz2 rfl (by decide) _ _ _ rfl (hown.out.alloc _) ⟨wr.heap.size, 0, none⟩ 1 1 [.int .i64 (p - r - q + 65536)] rfl rfl ?g11 ?g12 ?g13 ?g14 ?g15 ?_)
            | go_in)
          try case g11 => (intro j u hj; match j, hj with | 0, hj => simp at hj; subst hj; simp [Addr.add])
          case g12 => first | rfl | (intro u hu; simp at hu; subst hu; rfl)
          case g13 => rw [hS.out.2.1]; unfold maxLen; omega
          case g14 => rw [hS.out.2.1]; omega
          case g15 => have := hnx.out.size; simp; omega
          · intro v' w1 hown' hgrow _
            have R := Lib.hid (own_step0 hown.out hnx.out (hnx.out.size) hown' hgrow)
            have hS2 := Lib.hid (by have z := st.out.1 (by rw [hD.out]; exact hd); rw [hD.out] at z; exact z)
            clear hown' hgrow hown hnx hS
            go_wp2
            case roundEnd => exact ⟨⟨k + 1, _, _, by omega, rfl, by simp, hS2, Lib.hid R.out.1, Lib.hid R.out.2⟩, by simp [intOf]; omega⟩
        · clear hp
          go_wp2_with (first
            | (at_builtin; refine wpList_append_own _ rfl _ _ 72 rfl w.heap.size 3 i0 (.int .i64 0) 1 8 Tryz.underlying72 hi hz0 hz1 hz2 rfl (by decide) _ _ _ rfl (hown.out.alloc _) ⟨wr.heap.size, 0, none⟩ 1 1 [.int .i64 (p - r - q)] rfl rfl ?g21 ?g22 ?g23 ?g24 ?g25 ?_)
            | go_in)
          try case g21 => (intro j u hj; match j, hj with | 0, hj => simp at hj; subst hj; simp [Addr.add])
          case g22 => first | rfl | (intro u hu; simp at hu; subst hu; rfl)
          case g23 => rw [hS.out.2.1]; unfold maxLen; omega
          case g24 => rw [hS.out.2.1]; omega
          case g25 => have := hnx.out.size; simp; omega
          · intro v' w1 hown' hgrow _
            have R := Lib.hid (own_step0 hown.out hnx.out (hnx.out.size) hown' hgrow)
            have hS2 := Lib.hid (by have z := st.out.2 (by rw [hD.out]; exact hd); rw [hD.out] at z; exact z)
            clear hown' hgrow hown hnx hS
            go_wp2
            case roundEnd => exact ⟨⟨k + 1, _, _, by omega, rfl, by simp, hS2, Lib.hid R.out.1, Lib.hid R.out.2⟩, by simp [intOf]; omega⟩
      · have k2 : ¬ (k : Int) < (m : Int) := by omega
        have e3 : IntKind.i64.wrap (p - r + 65536) = p - r + 65536 := by rw [IntKind.wrap_i64]; omega
        have hD := Lib.hid (show nextD x y k r = p - r by
          unfold nextD; rw [hp, List.getD_eq_getElem?_getD, List.getElem?_eq_none (by rw [L2.out]; omega)]; simp)
        have hp := Lib.hid hp
        by_cases hd : p - r < 0
        · clear hp
          go_wp2_with (first
            | (at_builtin; refine wpList_append_own _ rfl _ _ 72 rfl w.heap.size 3 i0 (.int .i64 0) 1 8 Tryz.underlying72 hi hz0 hz1 hz2 rfl (by decide) _ _ _ rfl (hown.out.alloc _) ⟨wr.heap.size, 0, none⟩ 1 1 [.int .i64 (p - r + 65536)] rfl rfl ?g31 ?g32 ?g33 ?g34 ?g35 ?_)
            | go_in)
          try case g31 => (intro j u hj; match j, hj with | 0, hj => simp at hj; subst hj; simp [Addr.add])
          case g32 => first | rfl | (intro u hu; simp at hu; subst hu; rfl)
          case g33 => rw [hS.out.2.1]; unfold maxLen; omega
          case g34 => rw [hS.out.2.1]; omega
          case g35 => have := hnx.out.size; simp; omega
          · intro v' w1 hown' hgrow _
            have R := Lib.hid (own_step0 hown.out hnx.out (hnx.out.size) hown' hgrow)
            have hS2 := Lib.hid (by have z := st.out.1 (by rw [hD.out]; exact hd); rw [hD.out] at z; exact z)
            clear hown' hgrow hown hnx hS
            go_wp2
            case roundEnd => exact ⟨⟨k + 1, _, _, by omega, rfl, by simp, hS2, Lib.hid R.out.1, Lib.hid R.out.2⟩, by simp [intOf]; omega⟩
        · clear hp
          go_wp2_with (first
            | (at_builtin; refine wpList_append_own _ rfl _ _ 72 rfl w.heap.size 3 i0 (.int .i64 0) 1 8 Tryz.underlying72 hi hz0 hz1 hz2 rfl (by decide) _ _ _ rfl (hown.out.alloc _) ⟨wr.heap.size, 0, none⟩ 1 1 [.int .i64 (p - r)] rfl rfl ?g41 ?g42 ?g43 ?g44 ?g45 ?_)
            | go_in)
          try case g41 => (intro j u hj; match j, hj with | 0, hj => simp at hj; subst hj; simp [Addr.add])
          case g42 => first | rfl | (intro u hu; simp at hu; subst hu; rfl)
          case g43 => rw [hS.out.2.1]; unfold maxLen; omega
          case g44 => rw [hS.out.2.1]; omega
          case g45 => have := hnx.out.size; simp; omega
          · intro v' w1 hown' hgrow _
            have R := Lib.hid (own_step0 hown.out hnx.out (hnx.out.size) hown' hgrow)
            have hS2 := Lib.hid (by have z := st.out.2 (by rw [hD.out]; exact hd); rw [hD.out] at z; exact z)
            clear hown' hgrow hown hnx hS
            go_wp2
            case roundEnd => exact ⟨⟨k + 1, _, _, by omega, rfl, by simp, hS2, Lib.hid R.out.1, Lib.hid R.out.2⟩, by simp [intOf]; omega⟩
    · have hkn : k = n := by omega
      have k1 : ¬ (k : Int) < (n : Int) := by omega
      have hd := Lib.hid (Sub1.done (x := x) (y := y) (l := l) (r := r) (by rw [L1.out, ← hkn]; exact hS.out) T2.out O1.out LE.out)
      have hkn := Lib.hid hkn
      go_wp2_with (go_at_call 60; refine (trim_row _ l _ (RowV.own hown.out rfl)).mono ?_; rintro e w2 ⟨v2, rfl, hv, ⟨nq, rfl⟩, -⟩)
      go_ret
      exact ⟨v2, Dig.trimL l, rfl, hv.drewN nq, Dig.okL_trimL hd.out.1, Dig.trim_trimL hd.out.1, by rw [Dig.val_trimL]; exact hd.out.2, below_drewN hnx.out nq⟩

theorem minus_row (a b : Value) (x y : List Int) (w : World) (ha : RowV w a x) (hb : RowV w b y) (hn : x.length ≤ 1000000) (ox : Dig.okL x) (oy : Dig.okL y) (ty : Dig.Trim y) (hle : Dig.val y ≤ Dig.val x) :
    Calls Tryz.prog 78 #[a, b] w fun e w' => ∃ v l, e = .returned v ∧ RowV w' v l ∧ Dig.okL l ∧ Dig.Trim l ∧ Dig.val l = Dig.val x - Dig.val y ∧ Below w.heap.size w w' := by
  obtain ⟨p, c, rfl, h1⟩ := ha.reads
  obtain ⟨q, d, rfl, h2⟩ := hb.reads
  exact minus_shape p q c d _ _ x y rfl rfl hn w h1 h2 ox oy ty hle
end Go.Proofs.YtnccllelmbcdcaaGreatDoor
