/- The reference of layer 1: minus. Conditions: the rows hold digits, and the first number is not less than the second. -/
import Derived.Test.YtnccllelmbcdcaaGreatDoorRc
namespace Go.Proofs.YtnccllelmbcdcaaGreatDoor
open Go.RowKit

/-- What minus has gathered after i digits. -/
def Sub1 (x y l : List Int) (i : Nat) (r : Int) : Prop := Dig.okL l ∧ l.length = i ∧ (r = 0 ∨ r = 1) ∧ Dig.val l - Dig.pw i * r = Dig.val (x.take i) - Dig.val (y.take i)

theorem Sub1.start (x y : List Int) : Sub1 x y [] 0 0 := ⟨Dig.okL_nil, rfl, .inl rfl, by simp [Dig.val]⟩
/-- The next digit, before it is mended. -/
def nextD (x y : List Int) (i : Nat) (r : Int) : Int := x.getD i 0 - r - y.getD i 0
theorem Sub1.step {x y l : List Int} {i : Nat} {r : Int} (h : Sub1 x y l i r) (ox : Dig.okL x) (oy : Dig.okL y) (hi : i < x.length) :
    (nextD x y i r < 0 → Sub1 x y (l ++ [nextD x y i r + 65536]) (i + 1) 1) ∧ (¬ nextD x y i r < 0 → Sub1 x y (l ++ [nextD x y i r]) (i + 1) 0) := by
  obtain ⟨ho, hl, hr, hv⟩ := h
  have hx := Dig.okL_getD ox i
  have hy := Dig.okL_getD oy i
  have ex := Dig.val_take_succ hi
  have ey : Dig.val (y.take (i + 1)) = Dig.val (y.take i) + Dig.pw i * y.getD i 0 := by
    by_cases h : i < y.length
    · exact Dig.val_take_succ h
    · rw [Dig.val_take_ge (by omega), List.getD_eq_getElem?_getD, List.getElem?_eq_none (by omega)]; simp
  constructor <;> intro hd
  · refine ⟨Dig.okL_append.2 ⟨ho, Dig.okL_one (by unfold nextD at *; omega)⟩, by simp [hl], .inr rfl, ?_⟩
    rw [Dig.val_snoc, ex, ey, hl, Dig.pw_succ]; unfold nextD
    generalize Dig.pw i = P at *
    grind
  · refine ⟨Dig.okL_append.2 ⟨ho, Dig.okL_one (by unfold nextD at *; omega)⟩, by simp [hl], .inl rfl, ?_⟩
    rw [Dig.val_snoc, ex, ey, hl]; unfold nextD
    generalize Dig.pw i = P at *
    grind
theorem Sub1.done {x y l : List Int} {r : Int} (h : Sub1 x y l x.length r) (ty : Dig.Trim y) (ox : Dig.okL x) (hle : Dig.val y ≤ Dig.val x) : Dig.okL l ∧ Dig.val l = Dig.val x - Dig.val y := by
  obtain ⟨ho, hl, hr, hv⟩ := h
  have hlen : y.length ≤ x.length := by
    by_cases hn : x.length < y.length
    · have := Dig.len_lt ox ty hn; omega
    · omega
  rw [Dig.val_take_all (Nat.le_refl _), Dig.val_take_all hlen] at hv
  have h0 := Dig.val_lt ho
  rw [hl] at h0
  rcases hr with rfl | rfl
  · exact ⟨ho, by omega⟩
  · exact absurd hv (by omega)

theorem own_step0 {B : Nat} {w wr w1 : World} {v v' : Value} {o : Obj} {l : List Int} {x : Int} (hown : wr.ownsRow B 3 1 v l.length (l.map (Value.int .i64))) (hnx : Below B w wr) (hB : B ≤ wr.heap.size)
    (hown' : w1.ownsRow B 3 1 v' (l.length + 1) (l.map (Value.int .i64) ++ [.int .i64 x])) (hgrow : (wr.alloc o).grownBy w1 v.ownBlock) :
    w1.ownsRow B 3 1 v' (l ++ [x]).length ((l ++ [x]).map (Value.int .i64)) ∧ Below B w w1 :=
  ⟨by simpa using hown', (hnx.alloc (by omega) o).grown hgrow (by simp; omega) (fun j hj => by have := (hown.lt j hj).1; omega)⟩

set_option maxHeartbeats 8000000 in
set_option maxRecDepth 1000000 in
theorem minus_some (b1 b2 c d n m : Nat) (x y : List Int) (hx : x.length = n) (hy : y.length = m) (hn : n ≤ 1000000) (w : World) (h1 : HoldsD w b1 x) (h2 : HoldsD w b2 y) (ox : Dig.okL x) (oy : Dig.okL y) (ty : Dig.Trim y) (hle : Dig.val y ≤ Dig.val x) :
    Calls Tryz.prog 78 #[.slice (some ⟨b1, 0, none⟩) n c, .slice (some ⟨b2, 0, none⟩) m d] w fun e w' => ∃ v l, e = .returned v ∧ RowV w' v l ∧ Dig.okL l ∧ Dig.Trim l ∧ Dig.val l = Dig.val x - Dig.val y ∧ Below w.heap.size w w' := by
  obtain ⟨i0, hi, hz0, hz1, hz2⟩ := info_parts Ref.info3
  have H1 := Lib.hid h1; have H2 := Lib.hid h2; have O1 := Lib.hid ox; have O2 := Lib.hid oy; have L1 := Lib.hid hx; have L2 := Lib.hid hy; have T2 := Lib.hid ty; have LE := Lib.hid hle; clear h1 h2 ox oy hx hy ty hle
  go_enter Tryz.func78, Tryz.ntmps78
  go_wp2
  go_loopw [5, 6, 7] (fun v bo ix wr => ∃ (k : Nat) (l : List Int) (r : Int), k ≤ n ∧ bo = .int .i64 r ∧ ix = .int .i64 k ∧ Hid (Sub1 x y l k r) ∧ Hid (wr.ownsRow w.heap.size 3 1 v l.length (l.map (Value.int .i64))) ∧ Hid (Below w.heap.size w wr)) (fun _ _ ix _ => n - (intOf ix).toNat)
  case atStart => exact ⟨0, [], 0, Nat.zero_le _, rfl, rfl, Lib.hid (Sub1.start x y), Lib.hid (World.ownsRow_nil _ _ _ _), Lib.hid (Below.refl _ _)⟩
  case round =>
    obtain ⟨k, l, r, hk, rfl, rfl, hS, hown, hnx⟩ := hrel
    by_cases hin : k < n
    · obtain ⟨p, hp⟩ : ∃ p, x.getD k 0 = p := ⟨_, rfl⟩
      have p0 : 0 ≤ p ∧ p < 65536 := by rw [← hp]; exact Dig.okL_getD O1.out k
      have r0 : 0 ≤ r ∧ r ≤ 1 := by rcases hS.out.2.2.1 with h | h <;> omega
      have hc1 : wr.cell? ⟨b1, k, none⟩ = some (.int .i64 p) := by
        have hh := H1.out k (by rw [L1.out]; exact hin)
        rw [hp] at hh
        exact (hnx.out.cell (p := ⟨b1, k, none⟩) (World.block_lt_of_cell? w ⟨b1, k, none⟩ hh)).trans hh
      have e1 : IntKind.i64.wrap (p - r) = p - r := by rw [IntKind.wrap_i64]; omega
      have st := Lib.hid (hS.out.step O1.out O2.out (by rw [L1.out]; exact hin))
      have k1 : (k : Int) < (n : Int) := by omega
      by_cases him : k < m
      · obtain ⟨q, hq⟩ : ∃ q, y.getD k 0 = q := ⟨_, rfl⟩
        have q0 : 0 ≤ q ∧ q < 65536 := by rw [← hq]; exact Dig.okL_getD O2.out k
        have hc2 : wr.cell? ⟨b2, k, none⟩ = some (.int .i64 q) := by
          have hh := H2.out k (by rw [L2.out]; exact him)
          rw [hq] at hh
          exact (hnx.out.cell (p := ⟨b2, k, none⟩) (World.block_lt_of_cell? w ⟨b2, k, none⟩ hh)).trans hh
        have e2 : IntKind.i64.wrap (p - r - q) = p - r - q := by rw [IntKind.wrap_i64]; omega
        have e3 : IntKind.i64.wrap (p - r - q + 65536) = p - r - q + 65536 := by rw [IntKind.wrap_i64]; omega
        have k2 : (k : Int) < (m : Int) := by omega
        have hD := Lib.hid (show nextD x y k r = p - r - q by unfold nextD; rw [hp, hq])
        have hp := Lib.hid hp; have hq := Lib.hid hq
        by_cases hd : p - r - q < 0
        · clear hp
          go_wp2_with (first
            | (at_builtin; refine wpList_append_own _ rfl _ _ 72 rfl w.heap.size 3 i0 (.int .i64 0) 1 8 Tryz.underlying72 hi hz0 hz1 hz2 rfl (by decide) _ _ _ rfl (hown.out.alloc _) ⟨wr.heap.size, 0, none⟩ 1 1 [.int .i64 (p - r - q + 65536)] rfl rfl ?g11 ?g12 ?g13 ?g14 ?g15 ?_)
            | go_in)
          try case g11 => (intro j u hj; match j, hj with | 0, hj => simp at hj; subst hj; simp [Addr.add])
          case g12 => first | rfl | (intro u hu; simp at hu; subst hu; rfl)
          case g13 => rw [hS.out.2.1]; unfold maxLen; omega
          case g14 => rw [hS.out.2.1]; omega
          case g15 => have := hnx.out.size; simp; omega
          · intro v' w1 hown' hgrow _
            have R := Lib.hid (own_step0 hown.out hnx.out (hnx.out.size) hown' hgrow)
            have hS2 := Lib.hid (by have z := st.out.1 (by rw [hD.out]; exact hd); rw [hD.out] at z; exact z)
            clear hown' hgrow hown hnx hS
            go_wp2
            case roundEnd => exact ⟨⟨k + 1, _, _, by omega, rfl, by simp, hS2, Lib.hid R.out.1, Lib.hid R.out.2⟩, by simp [intOf]; omega⟩
        · clear hp
          go_wp2_with (first
            | (at_builtin; refine wpList_append_own _ rfl _ _ 72 rfl w.heap.size 3 i0 (.int .i64 0) 1 8 Tryz.underlying72 hi hz0 hz1 hz2 rfl (by decide) _ _ _ rfl (hown.out.alloc _) ⟨wr.heap.size, 0, none⟩ 1 1 [.int .i64 (p - r - q)] rfl rfl ?g21 ?g22 ?g23 ?g24 ?g25 ?_)
            | go_in)
          try case g21 => (intro j u hj; match j, hj with | 0, hj => simp at hj; subst hj; simp [Addr.add])
          case g22 => first | rfl | (intro u hu; simp at hu; subst hu; rfl)
          case g23 => rw [hS.out.2.1]; unfold maxLen; omega
          case g24 => rw [hS.out.2.1]; omega
          case g25 => have := hnx.out.size; simp; omega
          · intro v' w1 hown' hgrow _
            have R := Lib.hid (own_step0 hown.out hnx.out (hnx.out.size) hown' hgrow)
            have hS2 := Lib.hid (by have z := st.out.2 (by rw [hD.out]; exact hd); rw [hD.out] at z; exact z)
            clear hown' hgrow hown hnx hS
            go_wp2
            case roundEnd => exact ⟨⟨k + 1, _, _, by omega, rfl, by simp, hS2, Lib.hid R.out.1, Lib.hid R.out.2⟩, by simp [intOf]; omega⟩
      · have k2 : ¬ (k : Int) < (m : Int) := by omega
        have e3 : IntKind.i64.wrap (p - r + 65536) = p - r + 65536 := by rw [IntKind.wrap_i64]; omega
        have hD := Lib.hid (show nextD x y k r = p - r by
          unfold nextD; rw [hp, List.getD_eq_getElem?_getD, List.getElem?_eq_none (by rw [L2.out]; omega)]; simp)
        have hp := Lib.hid hp
        by_cases hd : p - r < 0
        · clear hp
          go_wp2_with (first
            | (at_builtin; refine wpList_append_own _ rfl _ _ 72 rfl w.heap.size 3 i0 (.int .i64 0) 1 8 Tryz.underlying72 hi hz0 hz1 hz2 rfl (by decide) _ _ _ rfl (hown.out.alloc _) ⟨wr.heap.size, 0, none⟩ 1 1 [.int .i64 (p - r + 65536)] rfl rfl ?g31 ?g32 ?g33 ?g34 ?g35 ?_)
            | go_in)
          try case g31 => (intro j u hj; match j, hj with | 0, hj => simp at hj; subst hj; simp [Addr.add])
          case g32 => first | rfl | (intro u hu; simp at hu; subst hu; rfl)
          case g33 => rw [hS.out.2.1]; unfold maxLen; omega
          case g34 => rw [hS.out.2.1]; omega
          case g35 => have := hnx.out.size; simp; omega
          · intro v' w1 hown' hgrow _
            have R := Lib.hid (own_step0 hown.out hnx.out (hnx.out.size) hown' hgrow)
            have hS2 := Lib.hid (by have z := st.out.1 (by rw [hD.out]; exact hd); rw [hD.out] at z; exact z)
            clear hown' hgrow hown hnx hS
            go_wp2
            case roundEnd => exact ⟨⟨k + 1, _, _, by omega, rfl, by simp, hS2, Lib.hid R.out.1, Lib.hid R.out.2⟩, by simp [intOf]; omega⟩
        · clear hp
          go_wp2_with (first
            | (at_builtin; refine wpList_append_own _ rfl _ _ 72 rfl w.heap.size 3 i0 (.int .i64 0) 1 8 Tryz.underlying72 hi hz0 hz1 hz2 rfl (by decide) _ _ _ rfl (hown.out.alloc _) ⟨wr.heap.size, 0, none⟩ 1 1 [.int .i64 (p - r)] rfl rfl ?g41 ?g42 ?g43 ?g44 ?g45 ?_)
            | go_in)
          try case g41 => (intro j u hj; match j, hj with | 0, hj => simp at hj; subst hj; simp [Addr.add])
          case g42 => first | rfl | (intro u hu; simp at hu; subst hu; rfl)
          case g43 => rw [hS.out.2.1]; unfold maxLen; omega
          case g44 => rw [hS.out.2.1]; omega
          case g45 => have := hnx.out.size; simp; omega
          · intro v' w1 hown' hgrow _
            have R := Lib.hid (own_step0 hown.out hnx.out (hnx.out.size) hown' hgrow)
            have hS2 := Lib.hid (by have z := st.out.2 (by rw [hD.out]; exact hd); rw [hD.out] at z; exact z)
            clear hown' hgrow hown hnx hS
            go_wp2
            case roundEnd => exact ⟨⟨k + 1, _, _, by omega, rfl, by simp, hS2, Lib.hid R.out.1, Lib.hid R.out.2⟩, by simp [intOf]; omega⟩
    · have hkn : k = n := by omega
      have k1 : ¬ (k : Int) < (n : Int) := by omega
      have hd := Lib.hid (Sub1.done (x := x) (y := y) (l := l) (r := r) (by rw [L1.out, ← hkn]; exact hS.out) T2.out O1.out LE.out)
      have hkn := Lib.hid hkn
      go_wp2_with (go_at_call 60; refine (trim_row _ l _ (RowV.own hown.out rfl)).mono ?_; rintro e w2 ⟨v2, rfl, hv, ⟨nq, rfl⟩, -⟩)
      go_ret
      exact ⟨v2, Dig.trimL l, rfl, hv.drewN nq, Dig.okL_trimL hd.out.1, Dig.trim_trimL hd.out.1, by rw [Dig.val_trimL]; exact hd.out.2, below_drewN hnx.out nq⟩

theorem minus_empty (p : Option Addr) (d : Nat) (w : World) :
    Calls Tryz.prog 78 #[.slice none 0 0, .slice p 0 d] w fun e w' => e = .returned (.slice none 0 0) ∧ Below w.heap.size w w' := by
  go_enter Tryz.func78, Tryz.ntmps78
  go_wp2
  go_loopw [5, 6, 7] (fun v bo ix wr => v = .slice none 0 0 ∧ bo = .int .i64 0 ∧ ix = .int .i64 0 ∧ wr = w) (fun _ _ _ _ => 0)
  case atStart => exact ⟨rfl, rfl, rfl, rfl⟩
  case round =>
    obtain ⟨rfl, rfl, rfl, rfl⟩ := hrel
    go_wp2_with (go_at_call 60; refine (trim_none _).mono ?_; rintro e w2 ⟨rfl, nq, rfl⟩)
    go_ret
    exact ⟨rfl, below_drewN (Below.refl _ _) nq⟩
end Go.Proofs.YtnccllelmbcdcaaGreatDoor
