/- The reference of layer 1: compare. Condition: the rows hold the digits, and no zero stands at their end. -/
import Derived.Test.YtnccllelmbcdcaaGreatDoorRa
namespace Go.Proofs.YtnccllelmbcdcaaGreatDoor
open Go.RowKit

theorem compare_less (p q : Option Addr) (n m c d : Nat) (h : n < m) (w : World) :
    Calls Tryz.prog 77 #[.slice p n c, .slice q m d] w fun e w' => e = .returned (.int .i64 (-1)) ∧ ∃ nq, w' = w.drewN nq := by
  have e1 : ((n : Int) != (m : Int)) = true := by simp; omega
  have e2 : (n : Int) < (m : Int) := by omega
  go_enter Tryz.func77, Tryz.ntmps77
  go_wp2
  go_ret
  exact ⟨rfl, 0, rfl⟩

theorem compare_more (p q : Option Addr) (n m c d : Nat) (h : m < n)  (w : World) :
    Calls Tryz.prog 77 #[.slice p n c, .slice q m d] w fun e w' => e = .returned (.int .i64 1) ∧ ∃ nq, w' = w.drewN nq := by
  have e1 : ((n : Int) != (m : Int)) = true := by simp; omega
  have e2 : ¬ (n : Int) < (m : Int) := by omega
  go_enter Tryz.func77, Tryz.ntmps77
  go_wp2
  go_ret
  exact ⟨rfl, 0, rfl⟩

theorem cmp_eq (x y : List Int) (h : x.drop 0 = y.drop 0) : cmpV (Dig.val x) (Dig.val y) = 0 := by
  rw [List.drop_zero, List.drop_zero] at h; subst h; simp [cmpV]
theorem cmp_lt (x y : List Int) (n k : Nat) (ox : Dig.okL x) (oy : Dig.okL y) (hx : x.length = n) (hy : y.length = n) (hk : k < n) (h : x.drop (k + 1) = y.drop (k + 1)) (hlt : x.getD k 0 < y.getD k 0) : cmpV (Dig.val x) (Dig.val y) = -1 := by
  have := Dig.cmp_at ox oy (by omega) (by omega) h hlt
  simp [cmpV, this]
theorem cmp_gt (x y : List Int) (n k : Nat) (ox : Dig.okL x) (oy : Dig.okL y) (hx : x.length = n) (hy : y.length = n) (hk : k < n) (h : x.drop (k + 1) = y.drop (k + 1)) (hlt : y.getD k 0 < x.getD k 0) : cmpV (Dig.val x) (Dig.val y) = 1 := by
  have := Dig.cmp_at oy ox (by omega) (by omega) h.symm hlt
  unfold cmpV; rw [if_neg (by omega), if_neg (by omega)]

set_option maxHeartbeats 800000 in
theorem compare_same (b1 b2 c d n : Nat) (x y : List Int) (hx : x.length = n) (hy : y.length = n) (hm : n ≤ 9223372036854775807) (w : World) (h1 : HoldsD w b1 x) (h2 : HoldsD w b2 y) (ox : Dig.okL x) (oy : Dig.okL y) :
    Calls Tryz.prog 77 #[.slice (some ⟨b1, 0, none⟩) n c, .slice (some ⟨b2, 0, none⟩) n d] w fun e w' => e = .returned (.int .i64 (cmpV (Dig.val x) (Dig.val y))) ∧ ∃ nq, w' = w.drewN nq := by
  have H1 := Lib.hid h1; have H2 := Lib.hid h2; have O1 := Lib.hid ox; have O2 := Lib.hid oy; have L1 := Lib.hid hx; have L2 := Lib.hid hy; clear h1 h2 ox oy hx hy
  have e0 : ((n : Int) != (n : Int)) = false := by simp
  have i2 : IntKind.i64.wrap ((n : Int) - 1) = (n : Int) - 1 := by rw [IntKind.wrap_i64]; omega
  go_enter Tryz.func77, Tryz.ntmps77
  go_wp2
  clear e0 i2
  go_loopw [5] (fun v wr => ∃ k : Nat, k ≤ n ∧ v = .int .i64 ((k : Int) - 1) ∧ Hid (x.drop k = y.drop k) ∧ ∃ nq, wr = w.drewN nq) (fun v _ => (intOf v + 1).toNat)
  case atStart => exact ⟨n, Nat.le_refl _, rfl, Lib.hid (by rw [List.drop_eq_nil_of_le (by rw [L1.out]; exact Nat.le_refl _), List.drop_eq_nil_of_le (by rw [L2.out]; exact Nat.le_refl _)]), 0, rfl⟩
  case round =>
    obtain ⟨k, hk, rfl, hg, nq0, rfl⟩ := hrel
    by_cases h0 : k = 0
    · subst h0
      have i0 : ¬ (0 : Int) ≤ ((0 : Nat) : Int) - 1 := by omega
      go_wp2
      go_ret
      exact ⟨by rw [cmp_eq x y hg.out]; rfl, _, rfl⟩
    · obtain ⟨j, rfl⟩ : ∃ j, k = j + 1 := ⟨k - 1, by omega⟩
      have ej : ((j + 1 : Nat) : Int) - 1 = (j : Int) := by omega
      rw [ej]
      have i0 : (0 : Int) ≤ (j : Int) := by omega
      have i1 : (j : Int) < (n : Int) := by omega
      have i2 : IntKind.i64.wrap ((j : Int) - 1) = (j : Int) - 1 := by rw [IntKind.wrap_i64]; omega
      obtain ⟨p, hp⟩ : ∃ p, x.getD j 0 = p := ⟨_, rfl⟩
      obtain ⟨q, hq⟩ : ∃ q, y.getD j 0 = q := ⟨_, rfl⟩
      have hc1 : w.cell? ⟨b1, j, none⟩ = some (.int .i64 p) := by rw [← hp]; exact H1.out j (by rw [L1.out]; omega)
      have hc2 : w.cell? ⟨b2, j, none⟩ = some (.int .i64 q) := by rw [← hq]; exact H2.out j (by rw [L2.out]; omega)
      have hp := Lib.hid hp; have hq := Lib.hid hq
      clear h0 ej
      by_cases he : p = q
      · have e1 : (p != q) = false := by simp [he]
        go_wp2
        go_quiet (fail)
        go_wp2
        case roundEnd => exact ⟨⟨j, by omega, rfl, Lib.hid (Dig.drop_eq_succ (by rw [L1.out, L2.out]) hg.out (by rw [hp.out, hq.out]; exact he)), _, rfl⟩, by simp [intOf]⟩
      · have e1 : (p != q) = true := by simp [he]
        by_cases hlt : p < q
        · go_wp2
          go_quiet (fail)
          go_wp2
          go_quiet (fail)
          go_wp2
          go_ret
          exact ⟨by rw [cmp_lt x y n j O1.out O2.out L1.out L2.out (by omega) hg.out (by rw [hp.out, hq.out]; exact hlt)]; rfl, _, by rw [World.drewN_drewN, World.drewN_drewN]⟩
        · go_wp2
          go_quiet (fail)
          go_wp2
          go_quiet (fail)
          go_wp2
          go_ret
          exact ⟨by rw [cmp_gt x y n j O1.out O2.out L1.out L2.out (by omega) hg.out (by rw [hp.out, hq.out]; omega)]; rfl, _, by rw [World.drewN_drewN, World.drewN_drewN]⟩

theorem compare_empty (p q : Option Addr) (c d : Nat) (w : World) :
    Calls Tryz.prog 77 #[.slice p 0 c, .slice q 0 d] w fun e w' => e = .returned (.int .i64 0) ∧ ∃ nq, w' = w.drewN nq := by
  go_enter Tryz.func77, Tryz.ntmps77
  go_wp2
  go_loopw [5] (fun v wr => v = .int .i64 (-1) ∧ wr = w) (fun _ _ => 0)
  case atStart => exact ⟨rfl, rfl⟩
  case round =>
    obtain ⟨rfl, rfl⟩ := hrel
    go_wp2
    go_ret
    exact ⟨rfl, 0, rfl⟩

theorem compare_row (a b : Value) (x y : List Int) (w : World) (ha : RowV w a x) (hb : RowV w b y) (ox : Dig.okL x) (oy : Dig.okL y) (tx : Dig.Trim x) (ty : Dig.Trim y) :
    Calls Tryz.prog 77 #[a, b] w fun e w' => e = .returned (.int .i64 (cmpV (Dig.val x) (Dig.val y))) ∧ ∃ nq, w' = w.drewN nq := by
  have ea : ∃ p c, a = .slice p x.length c := by
    rcases ha with ⟨rfl, rfl⟩ | ⟨b, cap, rfl, _⟩
    · exact ⟨_, _, rfl⟩
    · exact ⟨_, _, rfl⟩
  have eb : ∃ p c, b = .slice p y.length c := by
    rcases hb with ⟨rfl, rfl⟩ | ⟨b, cap, rfl, _⟩
    · exact ⟨_, _, rfl⟩
    · exact ⟨_, _, rfl⟩
  rcases Nat.lt_trichotomy x.length y.length with h | h | h
  · obtain ⟨p, c, rfl⟩ := ea; obtain ⟨q, d, rfl⟩ := eb
    rw [cmp_shorter ox ty h]
    exact compare_less p q _ _ c d h w
  · rcases ha with ⟨rfl, rfl⟩ | ⟨b1, c, rfl, hx, hc, hcm⟩
    · obtain ⟨q, d, rfl⟩ := eb
      have hy : y = [] := List.length_eq_zero_iff.1 h.symm
      subst hy
      exact compare_empty none q 0 d w
    · rcases hb with ⟨rfl, rfl⟩ | ⟨b2, d, rfl, hy, _, _⟩
      · have hx0 : x = [] := List.length_eq_zero_iff.1 h
        subst hx0
        exact compare_empty _ none c 0 w
      · have hs := compare_same b1 b2 c d x.length x y rfl h.symm (by omega) w hx hy ox oy
        rw [← h]; exact hs
  · obtain ⟨p, c, rfl⟩ := ea; obtain ⟨q, d, rfl⟩ := eb
    rw [cmp_longer oy tx h]
    exact compare_more p q _ _ c d h w
end Go.Proofs.YtnccllelmbcdcaaGreatDoor
