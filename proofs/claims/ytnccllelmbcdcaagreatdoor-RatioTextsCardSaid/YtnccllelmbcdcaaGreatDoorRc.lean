/- The reference of layer 1: of makes an int's digits. Condition: the argument is an int. -/
import Derived.Test.YtnccllelmbcdcaaGreatDoorRb
namespace Go.Proofs.YtnccllelmbcdcaaGreatDoor
open Go.RowKit

theorem Ref.info3 : (Tryz.prog.info? 3).map (fun i => (i.zero, i.size, i.bytes)) = some (some (.int .i64 0), 1, 8) := by kernel_rfl

/-- The digits l gathered so far, and what is left, p, make N. -/
def Left (N : Int) (l : List Int) (p : Int) : Prop := Dig.okL l ∧ 0 ≤ p ∧ Dig.val l + Dig.pw l.length * p = N ∧ (0 < p ∨ Dig.Trim l)

theorem Left.start (N : Int) (h : 0 ≤ N) : Left N [] N := by
  refine ⟨Dig.okL_nil, h, by simp [Dig.val, Dig.pw_zero], .inr (.inl rfl)⟩
theorem Left.step {N : Int} {l : List Int} {p : Int} (h : Left N l p) (hp : 0 < p) : Left N (l ++ [p % 65536]) (p / 65536) := by
  obtain ⟨ho, h0, hv, _⟩ := h
  have d0 := Int.emod_nonneg p (b := 65536) (by decide)
  have d1 := Int.emod_lt_of_pos p (b := 65536) (by decide)
  have e := Int.mul_ediv_add_emod p 65536
  have ok : Dig.okL (l ++ [p % 65536]) := Dig.okL_append.2 ⟨ho, Dig.okL_one ⟨d0, d1⟩⟩
  refine ⟨ok, by omega, ?_, ?_⟩
  · rw [Dig.val_snoc, List.length_append, List.length_singleton, Dig.pw_succ]
    rw [← hv]
    generalize Dig.pw l.length = P
    generalize p / 65536 = q at *
    generalize p % 65536 = r at *
    subst e
    grind
  · by_cases hq : 0 < p / 65536
    · exact .inl hq
    · exact .inr (Dig.trim_snoc ok (by omega))
theorem Left.len {N : Int} {l : List Int} {p : Int} (h : Left N l p) (hp : 0 < p) (hN : N < 18446744073709551616) : l.length < 4 := by
  obtain ⟨ho, h0, hv, _⟩ := h
  have := Dig.val_nonneg ho
  by_cases hl : l.length < 4
  · exact hl
  · have hm := Dig.pw_mono (j := 4) (k := l.length) (by omega)
    have h4 : Dig.pw 4 = 18446744073709551616 := by decide
    have hpos := Dig.pw_pos l.length
    have : Dig.pw l.length * 1 ≤ Dig.pw l.length * p := Int.mul_le_mul_of_nonneg_left (by omega) (by omega)
    omega
theorem Left.le {N : Int} {l : List Int} {p : Int} (h : Left N l p) : p ≤ N := by
  obtain ⟨ho, h0, hv, _⟩ := h
  have := Dig.val_nonneg ho
  have hpos := Dig.pw_pos l.length
  have : 1 * p ≤ Dig.pw l.length * p := Int.mul_le_mul_of_nonneg_right (by omega) h0
  omega
theorem Left.quo {N : Int} {l : List Int} {p : Int} (h : Left N l p) (hN : N < 18446744073709551616) : IntKind.u64.wrap (p.tdiv 65536) = p / 65536 := by
  have := h.le; have := h.2.1
  rw [Int.tdiv_eq_ediv_of_nonneg (by omega), IntKind.wrap_u64]; omega
theorem own_shape {w : World} {base n : Nat} {v : Value} {xs : List Value} (h : w.ownsRow base 3 1 v n xs) : ∃ q m c, v = .slice q m c := by
  rcases h.2 with ⟨rfl, _⟩ | ⟨g, cap, cur, rfl, _⟩
  · exact ⟨_, _, _, rfl⟩
  · exact ⟨_, _, _, rfl⟩
theorem Left.done {N : Int} {l : List Int} (h : Left N l 0) : Dig.okL l ∧ Dig.Trim l ∧ Dig.val l = N := by
  obtain ⟨ho, h0, hv, ht⟩ := h
  refine ⟨ho, ht.resolve_left (by omega), by omega⟩

/-- The box of a struct of a sign and digits, as it is made. -/
def BoxB (w : World) (B : Nat) : Prop := w.cell? ⟨B, 0, none⟩ = some (.bool false) ∧ w.cell? ⟨B, 1, none⟩ = some (.slice none 0 0) ∧ w.frozen? ⟨B, 0, none⟩ = false ∧ w.frozen? ⟨B, 1, none⟩ = false ∧ B < w.heap.size

theorem own_step {B : Nat} {w wr w1 : World} {v v' : Value} {o : Obj} {l : List Int} {x : Int} (hbox : BoxB wr B) (hown : wr.ownsRow (B + 1) 3 1 v l.length (l.map (Value.int .i64))) (hnx : Below B w wr)
    (hown' : w1.ownsRow (B + 1) 3 1 v' (l.length + 1) (l.map (Value.int .i64) ++ [.int .i64 x])) (hgrow : (wr.alloc o).grownBy w1 v.ownBlock) :
    w1.ownsRow (B + 1) 3 1 v' (l ++ [x]).length ((l ++ [x]).map (Value.int .i64)) ∧ BoxB w1 B ∧ Below B w w1 := by
  obtain ⟨c0, c1, f0, f1, hs⟩ := hbox
  have hne : some B ≠ v.ownBlock := fun h => by have := hown.lt B h.symm; omega
  have hfr : ∀ i, w1.frozen? ⟨B, i, none⟩ = wr.frozen? ⟨B, i, none⟩ := fun i => by
    rw [World.frozen?_of_block (w := wr.alloc o) (hgrow.block B (by simp; omega) hne), World.frozen?_alloc_past _ _ _ hs]
  refine ⟨by simpa using hown', ⟨hgrow.cell ((World.cell?_alloc_past _ _ _ hs).trans c0) hne, hgrow.cell ((World.cell?_alloc_past _ _ _ hs).trans c1) hne, (hfr 0).trans f0, (hfr 1).trans f1, ?_⟩,
    (hnx.alloc (by omega) o).grown hgrow (by simp; omega) (fun j hj => by have := (hown.lt j hj).1; omega)⟩
  exact World.block_lt_of_cell? w1 ⟨B, 0, none⟩ (hgrow.cell ((World.cell?_alloc_past _ _ _ hs).trans c0) hne)

set_option maxHeartbeats 1600000 in
set_option maxRecDepth 1000000 in
theorem of_row (n : Int) (h1 : -9223372036854775808 ≤ n) (h2 : n ≤ 9223372036854775807) (w : World) :
    Calls Tryz.prog 53 #[.int .i64 n] w fun e w' => ∃ v l, e = .returned (.agg #[.bool (decide (n < 0)), v]) ∧ RowV w' v l ∧ Dig.okL l ∧ Dig.Trim l ∧ Dig.val l = (n.natAbs : Int) ∧ Below w.heap.size w w' := by
  obtain ⟨i0, hi, hz0, hz1, hz2⟩ := info_parts Ref.info3
  go_enter Tryz.func53, Tryz.ntmps53
  have hN : Hid ((n.natAbs : Int) < 18446744073709551616) := Lib.hid (by omega)
  by_cases h : n < 0
  · have hm : IntKind.u64.wrap (-IntKind.u64.wrap n) = (n.natAbs : Int) := by simp only [IntKind.wrap_u64]; omega
    have hH := Lib.hid (And.intro h1 h2); clear h1 h2
    go_wp2
    clear hm
    go_loopw [3, 4] (fun v m wr => ∃ (l : List Int) (p : Int), m = .int .u64 p ∧ Hid (Left (n.natAbs : Int) l p) ∧ Hid (wr.ownsRow (w.heap.size + 1) 3 1 v l.length (l.map (Value.int .i64))) ∧ Hid (BoxB wr w.heap.size) ∧ Hid (Below w.heap.size w wr)) (fun _ m _ => (intOf m).toNat)
    case atStart => exact ⟨[], _, rfl, Lib.hid (Left.start _ (by omega)), Lib.hid (World.ownsRow_nil _ _ _ _), Lib.hid ⟨by simp [go_sem], by simp [go_sem], by simp [go_sem], by simp [go_sem], by simp⟩, Lib.hid ((Below.refl _ _).alloc (Nat.le_refl _) _)⟩
    case round =>
      obtain ⟨l, p, rfl, hL, hown, hbox, hnx⟩ := hrel
      by_cases hp : p = 0
      · subst hp
        obtain ⟨c0, c1, f0, f1, hs⟩ := hbox.out
        obtain ⟨q, m, c, rfl⟩ := own_shape hown.out
        go_wp2
        refine bodyPost_ret (v := .agg #[.bool (decide (n < 0)), .slice q m c]) (by simp [results, Tryz.results53, go_sem, c0, c1, h]) rfl ⟨_, l, rfl, ?_, hL.out.done.1, hL.out.done.2.1, hL.out.done.2.2, ?_⟩
        · exact RowV.own (ownsRow_setCell_below (ownsRow_setCell_below hown.out (Nat.lt_succ_self _) _) (Nat.lt_succ_self _) _) rfl
        · exact (hnx.out.setCell (Nat.le_refl _) _).setCell (Nat.le_refl _) _
      · have hpos : 0 < p := by have := hL.out.2.1; omega
        have hq : (p != 0) = true := by simp [hp]
        have hlen := hL.out.len hpos (by have := hN.out; omega)
        go_wp2_with (first
          | (at_builtin; refine wpList_append_own _ rfl _ _ 72 rfl (w.heap.size + 1) 3 i0 (.int .i64 0) 1 8 Tryz.underlying72 hi hz0 hz1 hz2 rfl (by decide) _ _ _ rfl (hown.out.alloc _) ⟨wr.heap.size, 0, none⟩ 1 1 [.int .i64 (p % 65536)] rfl rfl ?c1 ?c2 ?c3 ?c4 ?c5 ?_)
          | go_in)
        case c1 =>
          intro j u hj
          match j, hj with
          | 0, hj => simp at hj; subst hj; simp [Addr.add]
        case c2 => intro u hu; simp at hu; subst hu; rfl
        case c3 => unfold maxLen; omega
        case c4 => omega
        case c5 => have := hbox.out.2.2.2.2; simp; omega
        · intro v' w1 hown' hgrow _
          have R := Lib.hid (own_step hbox.out hown.out hnx.out hown' hgrow)
          have hL2 := Lib.hid (hL.out.step hpos)
          have hw := hL.out.quo hN.out
          have hlt : p / 65536 < p := by omega
          clear hown' hgrow hown hbox hnx
          go_wp2
          case roundEnd => exact ⟨⟨_, _, rfl, hL2, Lib.hid R.out.1, Lib.hid R.out.2.1, Lib.hid R.out.2.2⟩, by simp only [intOf]; omega⟩
  · have hm : (n.natAbs : Int) = n := by omega
    have hH := Lib.hid (And.intro h1 h2)
    go_wp2
    clear h1 h2
    have hm := Lib.hid hm
    go_loopw [3, 4] (fun v m wr => ∃ (l : List Int) (p : Int), m = .int .u64 p ∧ Hid (Left (n.natAbs : Int) l p) ∧ Hid (wr.ownsRow (w.heap.size + 1) 3 1 v l.length (l.map (Value.int .i64))) ∧ Hid (BoxB wr w.heap.size) ∧ Hid (Below w.heap.size w wr)) (fun _ m _ => (intOf m).toNat)
    case atStart => exact ⟨[], _, rfl, Lib.hid (by rw [hm.out]; exact Left.start _ (by omega)), Lib.hid (World.ownsRow_nil _ _ _ _), Lib.hid ⟨by simp [go_sem], by simp [go_sem], by simp [go_sem], by simp [go_sem], by simp⟩, Lib.hid ((Below.refl _ _).alloc (Nat.le_refl _) _)⟩
    case round =>
      obtain ⟨l, p, rfl, hL, hown, hbox, hnx⟩ := hrel
      by_cases hp : p = 0
      · subst hp
        obtain ⟨c0, c1, f0, f1, hs⟩ := hbox.out
        obtain ⟨q, m, c, rfl⟩ := own_shape hown.out
        go_wp2
        refine bodyPost_ret (v := .agg #[.bool (decide (n < 0)), .slice q m c]) (by simp [results, Tryz.results53, go_sem, c0, c1]) rfl ⟨_, l, rfl, ?_, hL.out.done.1, hL.out.done.2.1, hL.out.done.2.2, ?_⟩
        · exact RowV.own (ownsRow_setCell_below (ownsRow_setCell_below hown.out (Nat.lt_succ_self _) _) (Nat.lt_succ_self _) _) rfl
        · exact (hnx.out.setCell (Nat.le_refl _) _).setCell (Nat.le_refl _) _
      · have hpos : 0 < p := by have := hL.out.2.1; omega
        have hq : (p != 0) = true := by simp [hp]
        have hlen := hL.out.len hpos (by have := hN.out; omega)
        go_wp2_with (first
          | (at_builtin; refine wpList_append_own _ rfl _ _ 72 rfl (w.heap.size + 1) 3 i0 (.int .i64 0) 1 8 Tryz.underlying72 hi hz0 hz1 hz2 rfl (by decide) _ _ _ rfl (hown.out.alloc _) ⟨wr.heap.size, 0, none⟩ 1 1 [.int .i64 (p % 65536)] rfl rfl ?c1 ?c2 ?c3 ?c4 ?c5 ?_)
          | go_in)
        case c1 =>
          intro j u hj
          match j, hj with
          | 0, hj => simp at hj; subst hj; simp [Addr.add]
        case c2 => intro u hu; simp at hu; subst hu; rfl
        case c3 => unfold maxLen; omega
        case c4 => omega
        case c5 => have := hbox.out.2.2.2.2; simp; omega
        · intro v' w1 hown' hgrow _
          have R := Lib.hid (own_step hbox.out hown.out hnx.out hown' hgrow)
          have hL2 := Lib.hid (hL.out.step hpos)
          have hw := hL.out.quo hN.out
          have hlt : p / 65536 < p := by omega
          clear hown' hgrow hown hbox hnx
          go_wp2
          case roundEnd => exact ⟨⟨_, _, rfl, hL2, Lib.hid R.out.1, Lib.hid R.out.2.1, Lib.hid R.out.2.2⟩, by simp only [intOf]; omega⟩
end Go.Proofs.YtnccllelmbcdcaaGreatDoor
