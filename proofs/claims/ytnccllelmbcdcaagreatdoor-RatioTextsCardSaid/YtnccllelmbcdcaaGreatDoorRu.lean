/- The reference of layer 1: plus. Conditions: the rows hold digits. -/
import Derived.Test.YtnccllelmbcdcaaGreatDoorRr
import Derived.Test.YtnccllelmbcdcaaGreatDoorRs
namespace Go.Proofs.YtnccllelmbcdcaaGreatDoor
open Go.RowKit

set_option maxHeartbeats 8000000 in
set_option maxRecDepth 1000000 in
theorem plus_shape (pp qq : Option Addr) (c d n m N : Nat) (x y : List Int) (hx : x.length = n) (hy : y.length = m) (hn : n ≤ N) (hm : m ≤ N) (hN : N ≤ 1000000) (w : World) (h1 : ReadD w pp x) (h2 : ReadD w qq y) (ox : Dig.okL x) (oy : Dig.okL y) :
    Calls Tryz.prog 76 #[.slice pp n c, .slice qq m d] w fun e w' => ∃ v l, e = .returned v ∧ RowV w' v l ∧ Dig.okL l ∧ l.length ≤ N + 1 ∧ Dig.val l = Dig.val x + Dig.val y ∧ Below w.heap.size w w' := by
  obtain ⟨i0, hi, hz0, hz1, hz2⟩ := info_parts Ref.info3
  have H1 := Lib.hid h1; have H2 := Lib.hid h2; have O1 := Lib.hid ox; have O2 := Lib.hid oy; have L1 := Lib.hid hx; have L2 := Lib.hid hy; clear h1 h2 ox oy hx hy
  go_enter Tryz.func76, Tryz.ntmps76
  go_wp2
  go_loopw [5, 6, 7] (fun v cv ix wr => ∃ (k : Nat) (l : List Int) (r : Int), k ≤ N + 1 ∧ (k ≤ N ∨ r = 0) ∧ cv = .int .i64 r ∧ ix = .int .i64 k ∧ Hid (Add1 x y l k r) ∧ Hid (wr.ownsRow w.heap.size 3 1 v l.length (l.map (Value.int .i64))) ∧ Hid (Below w.heap.size w wr)) (fun _ _ ix _ => N + 1 - (intOf ix).toNat)
  case atStart => exact ⟨0, [], 0, by omega, .inl (by omega), rfl, rfl, Lib.hid (Add1.start x y), Lib.hid (World.ownsRow_nil _ _ _ _), Lib.hid (Below.refl _ _)⟩
  case round =>
    obtain ⟨k, l, r, hk, hkr, rfl, rfl, hS, hown, hnx⟩ := hrel
    have r0 : 0 ≤ r ∧ r ≤ 1 := by rcases hS.out.2.2.1 with h | h <;> omega
    have st := Lib.hid (hS.out.step O1.out O2.out)
    have hkr := Lib.hid hkr
    by_cases h1 : k < n
    · have k1 : (k : Int) < (n : Int) := by omega
      obtain ⟨b1, hb1, H1c⟩ := H1.out k (by rw [L1.out]; exact h1)
      subst hb1
      obtain ⟨p, hp⟩ : ∃ p, x.getD k 0 = p := ⟨_, rfl⟩
      have p0 : 0 ≤ p ∧ p < 65536 := by rw [← hp]; exact Dig.okL_getD O1.out k
      have hc1 : wr.cell? ⟨b1, k, none⟩ = some (.int .i64 p) := by
        have hh := H1c
        rw [hp] at hh
        exact (hnx.out.cell (p := ⟨b1, k, none⟩) (World.block_lt_of_cell? w ⟨b1, k, none⟩ hh)).trans hh
      clear H1c
      have e1 : IntKind.i64.wrap (r + p) = r + p := by rw [IntKind.wrap_i64]; omega
      by_cases h2 : k < m
      · have k2 : (k : Int) < (m : Int) := by omega
        obtain ⟨b2, hb2, H2c⟩ := H2.out k (by rw [L2.out]; exact h2)
        subst hb2
        obtain ⟨q, hq⟩ : ∃ q, y.getD k 0 = q := ⟨_, rfl⟩
        have q0 : 0 ≤ q ∧ q < 65536 := by rw [← hq]; exact Dig.okL_getD O2.out k
        have hc2 : wr.cell? ⟨b2, k, none⟩ = some (.int .i64 q) := by
          have hh := H2c
          rw [hq] at hh
          exact (hnx.out.cell (p := ⟨b2, k, none⟩) (World.block_lt_of_cell? w ⟨b2, k, none⟩ hh)).trans hh
        clear H2c
        have e2 : IntKind.i64.wrap (r + p + q) = r + p + q := by rw [IntKind.wrap_i64]; omega
        obtain ⟨D, hD⟩ : ∃ D, r + p + q = D := ⟨_, rfl⟩
        have hs : sumD x y k r = D := by unfold sumD; rw [hp, hq]; omega
        have st2 := st.out; rw [hs] at st2
        have d0 := st2.2
        have hS2 := Lib.hid st2.1
        have hlk := Lib.hid hS.out.2.1
        rw [hD] at e2
        have a7 : IntKind.i64.wrap (D.tmod 65536) = D % 65536 := by rw [Int.tmod_eq_emod_of_nonneg (by omega), IntKind.wrap_i64]; omega
        have a8 : D.tmod 65536 = D % 65536 := Int.tmod_eq_emod_of_nonneg (by omega)
        have a9 : IntKind.i64.wrap (D.tdiv 65536) = D / 65536 := by rw [Int.tdiv_eq_ediv_of_nonneg (by omega), IntKind.wrap_i64]; omega
        have zD : D / 65536 = 0 ∨ k < N := by right; omega
        have zD := Lib.hid zD
        have hs := Lib.hid hs; have hp := Lib.hid hp; have hq := Lib.hid hq; have hS := Lib.hid hS
        clear st2
        go_wp2_with (first
          | (at_builtin; refine wpList_append_own _ rfl _ _ 72 rfl w.heap.size 3 i0 (.int .i64 0) 1 8 Tryz.underlying72 hi hz0 hz1 hz2 rfl (by decide) _ _ _ rfl (hown.out.alloc _) ⟨wr.heap.size, 0, none⟩ 1 1 [.int .i64 (D % 65536)] rfl rfl ?g11 ?g12 ?g13 ?g14 ?g15 ?_)
          | go_in)
        try case g11 => (intro j u hj; match j, hj with | 0, hj => simp at hj; subst hj; simp [Addr.add])
        case g12 => first | rfl | (intro u hu; simp at hu; subst hu; rfl)
        case g13 => rw [hlk.out]; unfold maxLen; omega
        case g14 => rw [hlk.out]; omega
        case g15 => have := hnx.out.size; simp; omega
        · intro v' w1 hown' hgrow _
          have R := Lib.hid (own_step0 hown.out hnx.out (hnx.out.size) hown' hgrow)
          clear hown' hgrow hown hnx hS
          go_wp2
          case roundEnd => exact ⟨⟨k + 1, _, _, by omega, by rcases zD.out with h | h <;> omega, rfl, by simp, hS2, Lib.hid R.out.1, Lib.hid R.out.2⟩, by simp [intOf]; omega⟩
      · have k2 : ¬ (k : Int) < (m : Int) := by omega
        have hq : y.getD k 0 = 0 := by rw [List.getD_eq_getElem?_getD, List.getElem?_eq_none (by rw [L2.out]; omega)]; rfl
        obtain ⟨D, hD⟩ : ∃ D, r + p = D := ⟨_, rfl⟩
        have hs : sumD x y k r = D := by unfold sumD; rw [hp, hq]; omega
        have st2 := st.out; rw [hs] at st2
        have d0 := st2.2
        have hS2 := Lib.hid st2.1
        have hlk := Lib.hid hS.out.2.1
        rw [hD] at e1
        have a7 : IntKind.i64.wrap (D.tmod 65536) = D % 65536 := by rw [Int.tmod_eq_emod_of_nonneg (by omega), IntKind.wrap_i64]; omega
        have a8 : D.tmod 65536 = D % 65536 := Int.tmod_eq_emod_of_nonneg (by omega)
        have a9 : IntKind.i64.wrap (D.tdiv 65536) = D / 65536 := by rw [Int.tdiv_eq_ediv_of_nonneg (by omega), IntKind.wrap_i64]; omega
        have zD : D / 65536 = 0 ∨ k < N := by right; omega
        have zD := Lib.hid zD
        have hs := Lib.hid hs; have hp := Lib.hid hp; have hq := Lib.hid hq; have hS := Lib.hid hS
        clear st2
        go_wp2_with (first
          | (at_builtin; refine wpList_append_own _ rfl _ _ 72 rfl w.heap.size 3 i0 (.int .i64 0) 1 8 Tryz.underlying72 hi hz0 hz1 hz2 rfl (by decide) _ _ _ rfl (hown.out.alloc _) ⟨wr.heap.size, 0, none⟩ 1 1 [.int .i64 (D % 65536)] rfl rfl ?g21 ?g22 ?g23 ?g24 ?g25 ?_)
          | go_in)
        try case g21 => (intro j u hj; match j, hj with | 0, hj => simp at hj; subst hj; simp [Addr.add])
        case g22 => first | rfl | (intro u hu; simp at hu; subst hu; rfl)
        case g23 => rw [hlk.out]; unfold maxLen; omega
        case g24 => rw [hlk.out]; omega
        case g25 => have := hnx.out.size; simp; omega
        · intro v' w1 hown' hgrow _
          have R := Lib.hid (own_step0 hown.out hnx.out (hnx.out.size) hown' hgrow)
          clear hown' hgrow hown hnx hS
          go_wp2
          case roundEnd => exact ⟨⟨k + 1, _, _, by omega, by rcases zD.out with h | h <;> omega, rfl, by simp, hS2, Lib.hid R.out.1, Lib.hid R.out.2⟩, by simp [intOf]; omega⟩
    · have k1 : ¬ (k : Int) < (n : Int) := by omega
      have hp : x.getD k 0 = 0 := by rw [List.getD_eq_getElem?_getD, List.getElem?_eq_none (by rw [L1.out]; omega)]; rfl
      by_cases h2 : k < m
      · have k2 : (k : Int) < (m : Int) := by omega
        obtain ⟨b2, hb2, H2c⟩ := H2.out k (by rw [L2.out]; exact h2)
        subst hb2
        obtain ⟨q, hq⟩ : ∃ q, y.getD k 0 = q := ⟨_, rfl⟩
        have q0 : 0 ≤ q ∧ q < 65536 := by rw [← hq]; exact Dig.okL_getD O2.out k
        have hc2 : wr.cell? ⟨b2, k, none⟩ = some (.int .i64 q) := by
          have hh := H2c
          rw [hq] at hh
          exact (hnx.out.cell (p := ⟨b2, k, none⟩) (World.block_lt_of_cell? w ⟨b2, k, none⟩ hh)).trans hh
        clear H2c
        have e2 : IntKind.i64.wrap (r + q) = r + q := by rw [IntKind.wrap_i64]; omega
        obtain ⟨D, hD⟩ : ∃ D, r + q = D := ⟨_, rfl⟩
        have hs : sumD x y k r = D := by unfold sumD; rw [hp, hq]; omega
        have st2 := st.out; rw [hs] at st2
        have d0 := st2.2
        have hS2 := Lib.hid st2.1
        have hlk := Lib.hid hS.out.2.1
        rw [hD] at e2
        have a7 : IntKind.i64.wrap (D.tmod 65536) = D % 65536 := by rw [Int.tmod_eq_emod_of_nonneg (by omega), IntKind.wrap_i64]; omega
        have a8 : D.tmod 65536 = D % 65536 := Int.tmod_eq_emod_of_nonneg (by omega)
        have a9 : IntKind.i64.wrap (D.tdiv 65536) = D / 65536 := by rw [Int.tdiv_eq_ediv_of_nonneg (by omega), IntKind.wrap_i64]; omega
        have zD : D / 65536 = 0 ∨ k < N := by right; omega
        have zD := Lib.hid zD
        have hs := Lib.hid hs; have hp := Lib.hid hp; have hq := Lib.hid hq; have hS := Lib.hid hS
        clear st2
        go_wp2_with (first
          | (at_builtin; refine wpList_append_own _ rfl _ _ 72 rfl w.heap.size 3 i0 (.int .i64 0) 1 8 Tryz.underlying72 hi hz0 hz1 hz2 rfl (by decide) _ _ _ rfl (hown.out.alloc _) ⟨wr.heap.size, 0, none⟩ 1 1 [.int .i64 (D % 65536)] rfl rfl ?g31 ?g32 ?g33 ?g34 ?g35 ?_)
          | go_in)
        try case g31 => (intro j u hj; match j, hj with | 0, hj => simp at hj; subst hj; simp [Addr.add])
        case g32 => first | rfl | (intro u hu; simp at hu; subst hu; rfl)
        case g33 => rw [hlk.out]; unfold maxLen; omega
        case g34 => rw [hlk.out]; omega
        case g35 => have := hnx.out.size; simp; omega
        · intro v' w1 hown' hgrow _
          have R := Lib.hid (own_step0 hown.out hnx.out (hnx.out.size) hown' hgrow)
          clear hown' hgrow hown hnx hS
          go_wp2
          case roundEnd => exact ⟨⟨k + 1, _, _, by omega, by rcases zD.out with h | h <;> omega, rfl, by simp, hS2, Lib.hid R.out.1, Lib.hid R.out.2⟩, by simp [intOf]; omega⟩
      · have k2 : ¬ (k : Int) < (m : Int) := by omega
        have hq : y.getD k 0 = 0 := by rw [List.getD_eq_getElem?_getD, List.getElem?_eq_none (by rw [L2.out]; omega)]; rfl
        by_cases hr : r = 0
        · subst hr
          have hd := Lib.hid (Add1.done hS.out (by rw [L1.out]; omega) (by rw [L2.out]; omega))
          have hll := Lib.hid hS.out.2.1
          have hp := Lib.hid hp; have hq := Lib.hid hq
          go_wp2
          go_ret
          exact ⟨_, rfl, l, RowV.own hown.out rfl, hd.out.1, by rw [hll.out]; omega, hd.out.2, hnx.out⟩
        · have r1 : r = 1 := by omega
          have r2 : (0 : Int) < r := by omega
          replace r1 := Lib.hid r1
          obtain ⟨D, hD⟩ : ∃ D, r = D := ⟨_, rfl⟩
          have hs : sumD x y k r = D := by unfold sumD; rw [hp, hq]; omega
          have st2 := st.out; rw [hs] at st2
          have d0 := st2.2
          have hS2 := Lib.hid st2.1
          have hlk := Lib.hid hS.out.2.1
          have a7 : IntKind.i64.wrap (D.tmod 65536) = D % 65536 := by rw [Int.tmod_eq_emod_of_nonneg (by omega), IntKind.wrap_i64]; omega
          have a8 : D.tmod 65536 = D % 65536 := Int.tmod_eq_emod_of_nonneg (by omega)
          have a9 : IntKind.i64.wrap (D.tdiv 65536) = D / 65536 := by rw [Int.tdiv_eq_ediv_of_nonneg (by omega), IntKind.wrap_i64]; omega
          have zD : D / 65536 = 0 ∨ k < N := by left; have := r1.out; omega
          have zD := Lib.hid zD
          have hs := Lib.hid hs; have hp := Lib.hid hp; have hq := Lib.hid hq; have hS := Lib.hid hS
          clear st2
          go_wp2_with (first
            | (at_builtin; refine wpList_append_own _ rfl _ _ 72 rfl w.heap.size 3 i0 (.int .i64 0) 1 8 Tryz.underlying72 hi hz0 hz1 hz2 rfl (by decide) _ _ _ rfl (hown.out.alloc _) ⟨wr.heap.size, 0, none⟩ 1 1 [.int .i64 (D % 65536)] rfl rfl ?g41 ?g42 ?g43 ?g44 ?g45 ?_)
            | go_in)
          try case g41 => (intro j u hj; match j, hj with | 0, hj => simp at hj; subst hj; simp [Addr.add])
          case g42 => first | rfl | (intro u hu; simp at hu; subst hu; rfl)
          case g43 => rw [hlk.out]; unfold maxLen; omega
          case g44 => rw [hlk.out]; omega
          case g45 => have := hnx.out.size; simp; omega
          · intro v' w1 hown' hgrow _
            have R := Lib.hid (own_step0 hown.out hnx.out (hnx.out.size) hown' hgrow)
            clear hown' hgrow hown hnx hS
            go_wp2
            case roundEnd => exact ⟨⟨k + 1, _, _, by omega, by rcases zD.out with h | h <;> omega, rfl, by simp, hS2, Lib.hid R.out.1, Lib.hid R.out.2⟩, by simp [intOf]; omega⟩

theorem plus_row (a b : Value) (x y : List Int) (N : Nat) (w : World) (ha : RowV w a x) (hb : RowV w b y) (hn : x.length ≤ N) (hm : y.length ≤ N) (hN : N ≤ 1000000) (ox : Dig.okL x) (oy : Dig.okL y) :
    Calls Tryz.prog 76 #[a, b] w fun e w' => ∃ v l, e = .returned v ∧ RowV w' v l ∧ Dig.okL l ∧ l.length ≤ N + 1 ∧ Dig.val l = Dig.val x + Dig.val y ∧ Below w.heap.size w w' := by
  obtain ⟨p, c, rfl, h1⟩ := ha.reads
  obtain ⟨q, d, rfl, h2⟩ := hb.reads
  exact plus_shape p q c d _ _ N x y rfl rfl hn hm hN w h1 h2 ox oy
end Go.Proofs.YtnccllelmbcdcaaGreatDoor
