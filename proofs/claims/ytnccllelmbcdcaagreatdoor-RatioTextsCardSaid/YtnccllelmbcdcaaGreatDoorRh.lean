/- The reference of layer 1: over. Conditions: the rows hold digits, the divisor has no zero at its end and is not zero. -/
import Derived.Test.YtnccllelmbcdcaaGreatDoorRq
namespace Go.Proofs.YtnccllelmbcdcaaGreatDoor
open Go.RowKit

theorem cmpV_lt {a b : Int} (h : a < b) : cmpV a b = -1 := by unfold cmpV; rw [if_pos h]
theorem cmpV_ge {a b : Int} (h : ¬ a < b) : ¬ cmpV a b < 0 := by unfold cmpV; rw [if_neg h]; split <;> omega
theorem cmpV_le {a b : Int} (h : a ≤ b) : cmpV a b ≤ 0 := by unfold cmpV; split <;> (try split) <;> omega
theorem cmpV_gt {a b : Int} (h : ¬ a ≤ b) : ¬ cmpV a b ≤ 0 := by unfold cmpV; rw [if_neg (by omega), if_neg (by omega)]; omega

theorem len_of_lt {s y : List Int} (oy : Dig.okL y) (ts : Dig.Trim s) (h : Dig.val s < Dig.val y) : s.length ≤ y.length := by
  by_cases hn : y.length < s.length
  · have := Dig.len_lt oy ts hn; omega
  · omega

/-- The rest with the next digit ahead, without the zeros at its end. -/
def aheadL (p : Int) (s : List Int) : List Int := Dig.trimL (p :: s)
theorem val_ahead (p : Int) (s : List Int) : Dig.val (aheadL p s) = p + 65536 * Dig.val s := by unfold aheadL; rw [Dig.val_trimL]; rfl
theorem ok_ahead {p : Int} {s : List Int} (hp : 0 ≤ p ∧ p < 65536) (hs : Dig.okL s) : Dig.okL (aheadL p s) := Dig.okL_trimL (Dig.okL_cons.2 ⟨hp, hs⟩)
theorem trim_ahead {p : Int} {s : List Int} (hp : 0 ≤ p ∧ p < 65536) (hs : Dig.okL s) : Dig.Trim (aheadL p s) := Dig.trim_trimL (Dig.okL_cons.2 ⟨hp, hs⟩)

theorem compare_less_row (a b : Value) (x y : List Int) (w : World) (ha : RowV w a x) (hb : RowV w b y) (ox : Dig.okL x) (oy : Dig.okL y) (tx : Dig.Trim x) (ty : Dig.Trim y) (h : Dig.val x < Dig.val y) :
    Calls Tryz.prog 77 #[a, b] w fun e w' => ∃ c : Int, e = .returned (.int .i64 c) ∧ c < 0 ∧ ∃ nq, w' = w.drewN nq :=
  (compare_row a b x y w ha hb ox oy tx ty).mono fun _ _ ⟨h1, h2⟩ => ⟨_, h1, by rw [cmpV_lt h]; decide, h2⟩
theorem compare_more_row (a b : Value) (x y : List Int) (w : World) (ha : RowV w a x) (hb : RowV w b y) (ox : Dig.okL x) (oy : Dig.okL y) (tx : Dig.Trim x) (ty : Dig.Trim y) (h : ¬ Dig.val x < Dig.val y) :
    Calls Tryz.prog 77 #[a, b] w fun e w' => ∃ c : Int, e = .returned (.int .i64 c) ∧ ¬ c < 0 ∧ ∃ nq, w' = w.drewN nq :=
  (compare_row a b x y w ha hb ox oy tx ty).mono fun _ _ ⟨h1, h2⟩ => ⟨_, h1, cmpV_ge h, h2⟩
theorem compare_le_row (a b : Value) (x y : List Int) (w : World) (ha : RowV w a x) (hb : RowV w b y) (ox : Dig.okL x) (oy : Dig.okL y) (tx : Dig.Trim x) (ty : Dig.Trim y) (h : Dig.val x ≤ Dig.val y) :
    Calls Tryz.prog 77 #[a, b] w fun e w' => ∃ c : Int, e = .returned (.int .i64 c) ∧ c ≤ 0 ∧ ∃ nq, w' = w.drewN nq :=
  (compare_row a b x y w ha hb ox oy tx ty).mono fun _ _ ⟨h1, h2⟩ => ⟨_, h1, cmpV_le h, h2⟩
theorem compare_gt_row (a b : Value) (x y : List Int) (w : World) (ha : RowV w a x) (hb : RowV w b y) (ox : Dig.okL x) (oy : Dig.okL y) (tx : Dig.Trim x) (ty : Dig.Trim y) (h : ¬ Dig.val x ≤ Dig.val y) :
    Calls Tryz.prog 77 #[a, b] w fun e w' => ∃ c : Int, e = .returned (.int .i64 c) ∧ ¬ c ≤ 0 ∧ ∃ nq, w' = w.drewN nq :=
  (compare_row a b x y w ha hb ox oy tx ty).mono fun _ _ ⟨h1, h2⟩ => ⟨_, h1, cmpV_gt h, h2⟩
theorem HoldsD.row {w : World} {b n c : Nat} {l : List Int} (h : HoldsD w b l) (hl : l.length = n) (hc : n ≤ c) (hm : c ≤ 9223372036854775807) : RowV w (.slice (some ⟨b, 0, none⟩) n c) l := by
  subst hl; exact .inr ⟨b, c, rfl, h, hc, hm⟩

set_option maxHeartbeats 8000000 in
set_option maxRecDepth 1000000 in
theorem over_some (b1 b2 c d n m : Nat) (x y : List Int) (hx : x.length = n) (hy : y.length = m) (hn : n ≤ 1000000) (hm : m ≤ 100000) (w : World) (h1 : HoldsD w b1 x) (h2 : HoldsD w b2 y) (hd1 : m ≤ d) (hd2 : d ≤ 9223372036854775807) (ox : Dig.okL x) (oy : Dig.okL y) (ty : Dig.Trim y) (hp : 0 < Dig.val y) :
    Calls Tryz.prog 74 #[.slice (some ⟨b1, 0, none⟩) n c, .slice (some ⟨b2, 0, none⟩) m d] w fun e w' => ∃ v l u s, e = .returned (.tuple #[v, u]) ∧ RowV w' v l ∧ Dig.okL l ∧ Dig.Trim l ∧ RowV w' u s ∧ Dig.okL s ∧ Dig.Trim s ∧ Dig.val x = Dig.val y * Dig.val l + Dig.val s ∧ Dig.val s < Dig.val y ∧ Below w.heap.size w w' := by
  obtain ⟨i0, hi, hz0, hz1, hz2⟩ := info_parts Ref.info3
  have H1 := Lib.hid h1; have H2 := Lib.hid h2; have O1 := Lib.hid ox; have O2 := Lib.hid oy; have L1 := Lib.hid hx; have L2 := Lib.hid hy; clear h1 h2 ox oy hx hy
  have T2 := Lib.hid ty; have HP := Lib.hid hp; have HD := Lib.hid (And.intro hd1 hd2); clear ty hp hd1 hd2
  have e0 : IntKind.i64.wrap ((n : Int) - 1) = (n : Int) - 1 := by rw [IntKind.wrap_i64]; omega
  go_enter Tryz.func74, Tryz.ntmps74
  go_wp2_with (at_make; refine wpList_make_full _ rfl _ _ 72 rfl w.heap.size 3 i0 (.int .i64 0) 1 Tryz.underlying72 hi hz0 hz1 .i64 .i64 _ _ n rfl rfl (by first | rfl | omega) (by first | rfl | omega) (by rw [hz2]; omega) (by unfold maxLen; omega) (Nat.le_refl _) ?_; intro w0 hown0 hgrow0)
  have hown1 : Hid (w0.ownsRow w.heap.size 3 1 (.slice (some ⟨w.heap.size, 0, none⟩) n n) n ((List.replicate n (0 : Int)).map (Value.int .i64))) := Lib.hid (by
    have e : (List.replicate n (0 : Int)).map (Value.int .i64) = (madeCells (Value.int .i64 0).cells (n * 1)).toList := by
      show _ = (madeCells #[Value.int .i64 0] (n * 1)).toList
      rw [toList_madeCells_one, List.map_replicate, Nat.mul_one]
    rw [e]; exact hown0)
  have hnx0 : Hid (Below w.heap.size w w0) := Lib.hid ((Below.refl _ _).grown hgrow0 (Nat.le_refl _) (fun j hj => by cases hj))
  clear hown0 hgrow0
  clear e0
  go_loopw [7, 8] (fun rv ix wr => ∃ (k : Nat) (Q s : List Int), k ≤ n ∧ ix = .int .i64 ((k : Int) - 1) ∧ Hid (Div1 x Q (Dig.val y) k (Dig.val s)) ∧ Hid (RowV wr rv s) ∧ Hid (Dig.okL s ∧ Dig.Trim s) ∧ Hid (wr.ownsRow w.heap.size 3 1 (.slice (some ⟨w.heap.size, 0, none⟩) n n) n (Q.map (Value.int .i64))) ∧ Hid (Below w.heap.size w wr)) (fun _ ix _ => (intOf ix + 1).toNat)
  case atStart => exact ⟨n, _, [], Nat.le_refl _, rfl, Lib.hid (by have := Div1.start x (Dig.val y) HP.out; rw [L1.out] at this; exact this), Lib.hid (RowV.nil _), Lib.hid ⟨Dig.okL_nil, .inl rfl⟩, hown1, hnx0⟩
  case round =>
    clear hown1 hnx0
    obtain ⟨k, Q, s, hk, rfl, hD, hR, hS, hown, hnx⟩ := hrel
    by_cases h0 : k = 0
    · subst h0
      have i0 : ¬ (0 : Int) ≤ ((0 : Nat) : Int) - 1 := by omega
      have hd := Lib.hid (Div1.done hD.out)
      have hq := Lib.hid (RowV.own hown.out (by have := hD.out.2.1; rw [L1.out] at this; exact this.symm))
      go_wp2_with (go_at_call 60; refine (trim_row _ Q _ hq.out).mono ?_; rintro e w2 ⟨v2, rfl, hv, ⟨nq, rfl⟩, -⟩)
      go_ret2
      exact ⟨v2, Dig.trimL Q, _, s, rfl, hv.drewN nq, Dig.okL_trimL hd.out.1, Dig.trim_trimL hd.out.1, hR.out.drewN nq, hS.out.1, hS.out.2, by rw [Dig.val_trimL]; exact hd.out.2.2.2, hd.out.2.2.1, below_drewN hnx.out nq⟩
    · obtain ⟨j, rfl⟩ : ∃ j, k = j + 1 := ⟨k - 1, by omega⟩
      have ej : ((j + 1 : Nat) : Int) - 1 = (j : Int) := by omega
      rw [ej]
      have j0 : (0 : Int) ≤ (j : Int) := by omega
      have j1 : (j : Int) < (n : Int) := by omega
      have j2 : IntKind.i64.wrap ((j : Int) - 1) = (j : Int) - 1 := by rw [IntKind.wrap_i64]; omega
      obtain ⟨p, hp⟩ : ∃ p, x.getD j 0 = p := ⟨_, rfl⟩
      have p0 := Lib.hid (show 0 ≤ p ∧ p < 65536 by rw [← hp]; exact Dig.okL_getD O1.out j)
      have hc1 : wr.cell? ⟨b1, j, none⟩ = some (.int .i64 p) := by
        have hh := H1.out j (by rw [L1.out]; omega)
        rw [hp] at hh
        exact (hnx.out.cell (p := ⟨b1, j, none⟩) (World.block_lt_of_cell? w ⟨b1, j, none⟩ hh)).trans hh
      have hp := Lib.hid hp
      have hsl := Lib.hid (len_of_lt O2.out hS.out.2 hD.out.2.2.2.1)
      have hsz := Lib.hid (hnx.out.size)
      clear h0 ej
      have hlt := Lib.hid ((hown.out.lt w.heap.size rfl).2)
      go_wp2_with (at_builtin; refine wpList_append_rowv rfl _ _ 72 rfl wr.heap.size i0 Tryz.underlying72 hi hz0 hz1 hz2 (.slice (some ⟨wr.heap.size, 0, none⟩) 1 1) 1 [Value.int .i64 p] rfl (World.ownsRow_lit wr #[.int .i64 p] 1 (Nat.le_refl _) (by decide) rfl) _ s rfl (hR.out.alloc _) (by have := hsl.out; rw [L2.out] at this; unfold maxLen; omega) (by have := hsl.out; rw [L2.out] at this; omega) (by simp) ?_; intro v' w1 hown' hgrow)
      obtain ⟨⟨g, cap, rfl, hg, hG, hgc, hgm⟩, hb1, hb2⟩ := ahead_row (g0 := wr.heap.size) rfl hnx.out hsz.out hown' hgrow
      clear hown' hgrow
      have TR := trim_some g cap (p :: s) w1 hG hgc hgm
      have hG := hG.trim
      have hT : Hid (Dig.okL (Dig.trimL (p :: s)) ∧ Dig.Trim (Dig.trimL (p :: s)) ∧ Dig.val (Dig.trimL (p :: s)) = p + 65536 * Dig.val s ∧ (Dig.trimL (p :: s)).length ≤ m + 1 ∧ (Dig.trimL (p :: s)).length ≤ cap) := Lib.hid ⟨ok_ahead p0.out hS.out.1, trim_ahead p0.out hS.out.1, val_ahead p s, by have := trimL_len (p :: s); have := hsl.out; rw [L2.out] at this; simp at *; omega, Nat.le_trans (trimL_len _) hgc⟩
      generalize Dig.trimL (p :: s) = t at TR hG hT
      have TR := Lib.hid TR
      have OW := Lib.hid (own_below hown.out hb1)
      have HG := Lib.hid hG; have HB1 := Lib.hid hb1; have HB2 := Lib.hid hb2; have hgm := Lib.hid hgm; have hgc := Lib.hid hgc; have hg := Lib.hid hg
      clear hG hb1 hb2
      go_wp2_with (go_at_call 60; refine TR.out.mono ?_; rintro e w2 ⟨rfl, nq, rfl⟩)
      have hRY : ∀ w', Below w.heap.size w w' → RowV w' (.slice (some ⟨b2, 0, none⟩) m d) y := fun w' h => (H2.out.below h).row L2.out HD.out.1 HD.out.2
      have hRY := Lib.hid hRY
      by_cases hc : Dig.val t < Dig.val y
      · have hsk0 : Hid (Seek (Dig.val y) (Dig.val t) 0 1) := Lib.hid ⟨Int.le_refl _, by decide, by decide, by rw [Int.mul_zero]; exact Dig.val_nonneg hT.out.1, by omega⟩
        have hc := Lib.hid hc
        go_wp2_with (go_at_call 77; refine (compare_less_row _ _ t y _ ((HG.out.drewN nq).row rfl hT.out.2.2.2.2 hgm.out) (hRY.out _ (below_drewN HB2.out nq)) hT.out.1 O2.out hT.out.2.1 T2.out hc.out).mono ?_; rintro e w3 ⟨c3, rfl, hc3, hw3⟩; replace hw3 := Lib.hid hw3)
        obtain ⟨nq3, hw3⟩ := hw3.out
        have HG3 : Hid (HoldsD w3 g t) := Lib.hid (by subst hw3; exact (HG.out.drewN nq).drewN nq3)
        have EW : Hid (Below w.heap.size w w3) := Lib.hid (by subst hw3; exact below_drewN (below_drewN HB2.out nq) nq3)
        have OW3 : Hid (w3.ownsRow w.heap.size 3 1 (.slice (some ⟨w.heap.size, 0, none⟩) n n) n (Q.map (Value.int .i64))) := Lib.hid (by subst hw3; exact OW.out)
        clear hw3
        go_loopw [9, 10] (fun lo hi wi => ∃ a b : Int, lo = .int .i64 a ∧ hi = .int .i64 b ∧ 0 ≤ a ∧ a < b ∧ b ≤ 65536 ∧ Hid (Seek (Dig.val y) (Dig.val t) a b) ∧ Hid (Below w3.heap.size w3 wi)) (fun lo hi _ => (intOf hi - intOf lo).toNat)
        case atStart => exact ⟨0, _, rfl, rfl, by decide, by decide, by decide, hsk0, Lib.hid (Below.refl _ _)⟩
        case round =>
          obtain ⟨a, b, rfl, rfl, a0, ab, b1', hsk, hbi⟩ := hrel
          have HGi := Lib.hid (HG3.out.below hbi.out)
          have EWi := Lib.hid (EW.out.trans (hbi.out.mono EW.out.size))
          have z1 : IntKind.i64.wrap (b - a) = b - a := by rw [IntKind.wrap_i64]; omega
          by_cases h1 : 1 < b - a
          · obtain ⟨M, hM⟩ : ∃ M, (a + b) / 2 = M := ⟨_, rfl⟩
            have z2 : IntKind.i64.wrap (a + b) = a + b := by rw [IntKind.wrap_i64]; omega
            have z4 : (a + b).tdiv 2 = M := by rw [Int.tdiv_eq_ediv_of_nonneg (by omega)]; exact hM
            have z3 : IntKind.i64.wrap ((a + b).tdiv 2) = M := by rw [z4, IntKind.wrap_i64]; omega
            have hmid := hsk.out.mid h1
            rw [hM] at hmid
            have m0 : 0 ≤ M ∧ M < 65536 := by omega
            have hmid := Lib.hid hmid; have hM := Lib.hid hM; have m0 := Lib.hid m0
            go_wp2_with (go_at_call 92; refine (by_some b2 d m y M L2.out (by omega) _ (H2.out.below EWi.out) O2.out m0.out.1 m0.out.2).mono ?_; rintro e w4 ⟨v4, l4, rfl, hv4, ho4, ht4, hval4, hnn4, hb4⟩)
            have HG4 := Lib.hid (HGi.out.below hb4)
            have EB4 := Lib.hid (hbi.out.trans (hb4.mono hbi.out.size))
            have hb4 := Lib.hid hb4; have hv4 := Lib.hid hv4; have ho4 := Lib.hid ho4; have ht4 := Lib.hid ht4; have hval4 := Lib.hid hval4
            by_cases hle : Dig.val y * M ≤ Dig.val t
            · have hle := Lib.hid hle
              go_wp2_with (go_at_call 77; refine (compare_le_row _ _ l4 t _ (by first | exact hv4.out | exact hv4.out.drewN _) (by first | exact HG4.out.row rfl hT.out.2.2.2.2 hgm.out | exact (HG4.out.drewN _).row rfl hT.out.2.2.2.2 hgm.out) ho4.out hT.out.1 ht4.out hT.out.2.1 (by rw [hval4.out]; exact hle.out)).mono ?_; rintro e w5 ⟨c5, rfl, hc5, nq5, rfl⟩)
              case roundEnd => exact ⟨⟨M, b, rfl, rfl, m0.out.1, hmid.out.2.1, b1', Lib.hid (hmid.out.2.2.1 hle.out), Lib.hid (below_drewN EB4.out nq5)⟩, by have := hmid.out.1; simp [intOf]; omega⟩
            · have hle := Lib.hid hle
              go_wp2_with (go_at_call 77; refine (compare_gt_row _ _ l4 t _ (by first | exact hv4.out | exact hv4.out.drewN _) (by first | exact HG4.out.row rfl hT.out.2.2.2.2 hgm.out | exact (HG4.out.drewN _).row rfl hT.out.2.2.2.2 hgm.out) ho4.out hT.out.1 ht4.out hT.out.2.1 (by rw [hval4.out]; exact hle.out)).mono ?_; rintro e w5 ⟨c5, rfl, hc5, nq5, rfl⟩)
              case roundEnd => exact ⟨⟨a, M, rfl, rfl, a0, hmid.out.1, by have := m0.out.2; omega, Lib.hid (hmid.out.2.2.2 hle.out), Lib.hid (below_drewN EB4.out nq5)⟩, by have := hmid.out.2.1; simp [intOf]; omega⟩
          · have hone := Lib.hid (hsk.out.one h1)
            have OWi := Lib.hid (own_below OW3.out hbi.out)
            have hfz : wr.frozen? ⟨w.heap.size, j, none⟩ = false := OWi.out.frozenAt j
            have hQl := Lib.hid (show Q.length = n by have := hD.out.2.1; rw [L1.out] at this; exact this)
            have hcq : wr.cell? ⟨w.heap.size, j, none⟩ = some (.int .i64 (Q.getD j 0)) := by
              rw [OWi.out.cellAt j (by omega), List.getElem?_map, List.getElem?_eq_getElem (by rw [hQl.out]; omega)]
              rw [List.getD_eq_getElem?_getD, List.getElem?_eq_getElem (by rw [hQl.out]; omega)]; rfl
            have hst := Lib.hid (OWi.out.stored j (.int .i64 a)).1
            have EWs : Hid (Below w.heap.size w (wr.setCell ⟨w.heap.size, j, none⟩ (.int .i64 a))) := Lib.hid (EWi.out.setCell (Nat.le_refl _) _)
            have HGs := Lib.hid (HGi.out.setCell (g := w.heap.size) (j := j) (by have := hg.out; have := hlt.out; omega) (.int .i64 a))
            go_wp2_with (go_at_call 92; refine (by_some b2 d m y a L2.out (by omega) _ (H2.out.below EWs.out) O2.out a0 (by omega)).mono ?_; rintro e w4 ⟨v4, l4, rfl, hv4, ho4, ht4, hval4, hnn4, hb4⟩)
            rcases hv4 with ⟨rfl, _⟩ | ⟨b4, cap4, rfl, hH4, hl4, hm4⟩
            · exact absurd rfl hnn4
            · have HG4 := Lib.hid (HGs.out.below hb4)
              have EB4 := Lib.hid (EWs.out.trans (hb4.mono EWs.out.size))
              have OW4 := Lib.hid (own_below hst.out hb4)
              have hb4 := Lib.hid hb4; have hH4 := Lib.hid hH4; have ho4 := Lib.hid ho4; have ht4 := Lib.hid ht4; have hval4 := Lib.hid hval4; have hm4 := Lib.hid hm4; have hl4 := Lib.hid hl4
              clear hnn4
              go_wp2_with (go_at_call 78; refine (minus_some g b4 cap cap4 t.length l4.length t l4 rfl rfl (by have := hT.out.2.2.2.1; omega) _ HG4.out hH4.out hT.out.1 ho4.out ht4.out (by rw [hval4.out]; exact hone.out.1)).mono ?_; rintro e w6 ⟨v6, l6, rfl, hv6, ho6, ht6, hval6, hb6⟩; replace hv6 := Lib.hid hv6; replace ho6 := Lib.hid ho6; replace ht6 := Lib.hid ht6; replace hval6 := Lib.hid hval6; replace hb6 := Lib.hid hb6)
              case roundEnd =>
                refine ⟨⟨j, Q.set j a, l6, by omega, rfl, Lib.hid ?_, hv6, Lib.hid ⟨ho6.out, ht6.out⟩, Lib.hid ?_, Lib.hid (EB4.out.trans (hb6.out.mono EB4.out.size))⟩, by simp [intOf]⟩
                · have hv := hval6.out
                  rw [hT.out.2.2.1, hval4.out] at hv
                  have h2 := hone.out
                  rw [hT.out.2.2.1] at h2
                  have h3 := hD.out.step (i := j) (q := a) (by rw [L1.out]; omega) a0 (by omega) (by rw [hp.out]; exact h2.1) (by rw [hp.out]; exact h2.2)
                  rw [hp.out, ← hv] at h3
                  exact h3
                · rw [List.map_set]; exact own_below OW4.out hb6.out
      · have hsk0 : Hid (Seek (Dig.val y) (Dig.val t) 0 65536) := Lib.hid ⟨Int.le_refl _, by decide, by decide, by rw [Int.mul_zero]; exact Dig.val_nonneg hT.out.1, by have := hD.out.ahead O1.out; rw [hp.out] at this; rw [hT.out.2.2.1, Int.mul_comm (Dig.val y)]; exact this.2⟩
        have hc := Lib.hid hc
        go_wp2_with (go_at_call 77; refine (compare_more_row _ _ t y _ ((HG.out.drewN nq).row rfl hT.out.2.2.2.2 hgm.out) (hRY.out _ (below_drewN HB2.out nq)) hT.out.1 O2.out hT.out.2.1 T2.out hc.out).mono ?_; rintro e w3 ⟨c3, rfl, hc3, hw3⟩; replace hw3 := Lib.hid hw3)
        obtain ⟨nq3, hw3⟩ := hw3.out
        have HG3 : Hid (HoldsD w3 g t) := Lib.hid (by subst hw3; exact (HG.out.drewN nq).drewN nq3)
        have EW : Hid (Below w.heap.size w w3) := Lib.hid (by subst hw3; exact below_drewN (below_drewN HB2.out nq) nq3)
        have OW3 : Hid (w3.ownsRow w.heap.size 3 1 (.slice (some ⟨w.heap.size, 0, none⟩) n n) n (Q.map (Value.int .i64))) := Lib.hid (by subst hw3; exact OW.out)
        clear hw3
        go_loopw [9, 10] (fun lo hi wi => ∃ a b : Int, lo = .int .i64 a ∧ hi = .int .i64 b ∧ 0 ≤ a ∧ a < b ∧ b ≤ 65536 ∧ Hid (Seek (Dig.val y) (Dig.val t) a b) ∧ Hid (Below w3.heap.size w3 wi)) (fun lo hi _ => (intOf hi - intOf lo).toNat)
        case atStart => exact ⟨0, _, rfl, rfl, by decide, by decide, by decide, hsk0, Lib.hid (Below.refl _ _)⟩
        case round =>
          obtain ⟨a, b, rfl, rfl, a0, ab, b1', hsk, hbi⟩ := hrel
          have HGi := Lib.hid (HG3.out.below hbi.out)
          have EWi := Lib.hid (EW.out.trans (hbi.out.mono EW.out.size))
          have z1 : IntKind.i64.wrap (b - a) = b - a := by rw [IntKind.wrap_i64]; omega
          by_cases h1 : 1 < b - a
          · obtain ⟨M, hM⟩ : ∃ M, (a + b) / 2 = M := ⟨_, rfl⟩
            have z2 : IntKind.i64.wrap (a + b) = a + b := by rw [IntKind.wrap_i64]; omega
            have z4 : (a + b).tdiv 2 = M := by rw [Int.tdiv_eq_ediv_of_nonneg (by omega)]; exact hM
            have z3 : IntKind.i64.wrap ((a + b).tdiv 2) = M := by rw [z4, IntKind.wrap_i64]; omega
            have hmid := hsk.out.mid h1
            rw [hM] at hmid
            have m0 : 0 ≤ M ∧ M < 65536 := by omega
            have hmid := Lib.hid hmid; have hM := Lib.hid hM; have m0 := Lib.hid m0
            go_wp2_with (go_at_call 92; refine (by_some b2 d m y M L2.out (by omega) _ (H2.out.below EWi.out) O2.out m0.out.1 m0.out.2).mono ?_; rintro e w4 ⟨v4, l4, rfl, hv4, ho4, ht4, hval4, hnn4, hb4⟩)
            have HG4 := Lib.hid (HGi.out.below hb4)
            have EB4 := Lib.hid (hbi.out.trans (hb4.mono hbi.out.size))
            have hb4 := Lib.hid hb4; have hv4 := Lib.hid hv4; have ho4 := Lib.hid ho4; have ht4 := Lib.hid ht4; have hval4 := Lib.hid hval4
            by_cases hle : Dig.val y * M ≤ Dig.val t
            · have hle := Lib.hid hle
              go_wp2_with (go_at_call 77; refine (compare_le_row _ _ l4 t _ (by first | exact hv4.out | exact hv4.out.drewN _) (by first | exact HG4.out.row rfl hT.out.2.2.2.2 hgm.out | exact (HG4.out.drewN _).row rfl hT.out.2.2.2.2 hgm.out) ho4.out hT.out.1 ht4.out hT.out.2.1 (by rw [hval4.out]; exact hle.out)).mono ?_; rintro e w5 ⟨c5, rfl, hc5, nq5, rfl⟩)
              case roundEnd => exact ⟨⟨M, b, rfl, rfl, m0.out.1, hmid.out.2.1, b1', Lib.hid (hmid.out.2.2.1 hle.out), Lib.hid (below_drewN EB4.out nq5)⟩, by have := hmid.out.1; simp [intOf]; omega⟩
            · have hle := Lib.hid hle
              go_wp2_with (go_at_call 77; refine (compare_gt_row _ _ l4 t _ (by first | exact hv4.out | exact hv4.out.drewN _) (by first | exact HG4.out.row rfl hT.out.2.2.2.2 hgm.out | exact (HG4.out.drewN _).row rfl hT.out.2.2.2.2 hgm.out) ho4.out hT.out.1 ht4.out hT.out.2.1 (by rw [hval4.out]; exact hle.out)).mono ?_; rintro e w5 ⟨c5, rfl, hc5, nq5, rfl⟩)
              case roundEnd => exact ⟨⟨a, M, rfl, rfl, a0, hmid.out.1, by have := m0.out.2; omega, Lib.hid (hmid.out.2.2.2 hle.out), Lib.hid (below_drewN EB4.out nq5)⟩, by have := hmid.out.2.1; simp [intOf]; omega⟩
          · have hone := Lib.hid (hsk.out.one h1)
            have OWi := Lib.hid (own_below OW3.out hbi.out)
            have hfz : wr.frozen? ⟨w.heap.size, j, none⟩ = false := OWi.out.frozenAt j
            have hQl := Lib.hid (show Q.length = n by have := hD.out.2.1; rw [L1.out] at this; exact this)
            have hcq : wr.cell? ⟨w.heap.size, j, none⟩ = some (.int .i64 (Q.getD j 0)) := by
              rw [OWi.out.cellAt j (by omega), List.getElem?_map, List.getElem?_eq_getElem (by rw [hQl.out]; omega)]
              rw [List.getD_eq_getElem?_getD, List.getElem?_eq_getElem (by rw [hQl.out]; omega)]; rfl
            have hst := Lib.hid (OWi.out.stored j (.int .i64 a)).1
            have EWs : Hid (Below w.heap.size w (wr.setCell ⟨w.heap.size, j, none⟩ (.int .i64 a))) := Lib.hid (EWi.out.setCell (Nat.le_refl _) _)
            have HGs := Lib.hid (HGi.out.setCell (g := w.heap.size) (j := j) (by have := hg.out; have := hlt.out; omega) (.int .i64 a))
            go_wp2_with (go_at_call 92; refine (by_some b2 d m y a L2.out (by omega) _ (H2.out.below EWs.out) O2.out a0 (by omega)).mono ?_; rintro e w4 ⟨v4, l4, rfl, hv4, ho4, ht4, hval4, hnn4, hb4⟩)
            rcases hv4 with ⟨rfl, _⟩ | ⟨b4, cap4, rfl, hH4, hl4, hm4⟩
            · exact absurd rfl hnn4
            · have HG4 := Lib.hid (HGs.out.below hb4)
              have EB4 := Lib.hid (EWs.out.trans (hb4.mono EWs.out.size))
              have OW4 := Lib.hid (own_below hst.out hb4)
              have hb4 := Lib.hid hb4; have hH4 := Lib.hid hH4; have ho4 := Lib.hid ho4; have ht4 := Lib.hid ht4; have hval4 := Lib.hid hval4; have hm4 := Lib.hid hm4; have hl4 := Lib.hid hl4
              clear hnn4
              go_wp2_with (go_at_call 78; refine (minus_some g b4 cap cap4 t.length l4.length t l4 rfl rfl (by have := hT.out.2.2.2.1; omega) _ HG4.out hH4.out hT.out.1 ho4.out ht4.out (by rw [hval4.out]; exact hone.out.1)).mono ?_; rintro e w6 ⟨v6, l6, rfl, hv6, ho6, ht6, hval6, hb6⟩; replace hv6 := Lib.hid hv6; replace ho6 := Lib.hid ho6; replace ht6 := Lib.hid ht6; replace hval6 := Lib.hid hval6; replace hb6 := Lib.hid hb6)
              case roundEnd =>
                refine ⟨⟨j, Q.set j a, l6, by omega, rfl, Lib.hid ?_, hv6, Lib.hid ⟨ho6.out, ht6.out⟩, Lib.hid ?_, Lib.hid (EB4.out.trans (hb6.out.mono EB4.out.size))⟩, by simp [intOf]⟩
                · have hv := hval6.out
                  rw [hT.out.2.2.1, hval4.out] at hv
                  have h2 := hone.out
                  rw [hT.out.2.2.1] at h2
                  have h3 := hD.out.step (i := j) (q := a) (by rw [L1.out]; omega) a0 (by omega) (by rw [hp.out]; exact h2.1) (by rw [hp.out]; exact h2.2)
                  rw [hp.out, ← hv] at h3
                  exact h3
                · rw [List.map_set]; exact own_below OW4.out hb6.out
end Go.Proofs.YtnccllelmbcdcaaGreatDoor
