/- The reference of layer 1: Right, both, tiny. Condition: the arguments are ints. -/
import Derived.Test.YtnccllelmbcdcaaGreatDoorRv
import Derived.Test.YtnccllelmbcdcaaGreatDoorRo
import Derived.Test.YtnccllelmbcdcaaGreatDoorOrd
namespace Go.Proofs.YtnccllelmbcdcaaGreatDoor
open Go.RowKit

theorem Num.rt_low {n d : Int} (h : Num.rtB n d = true) : Num.lowN n d = n ∧ Num.lowD n d = d := Num.low_of h (by have := Num.rt_pos h; omega) rfl
theorem Num.rt_not_low {n d : Int} (hd : 1 ≤ d) (h : Num.rtB n d = false) : ¬ (Num.lowN n d = n ∧ Num.lowD n d = d) := fun e => by
  have := Num.low_right (n := n) (d := d) (by omega)
  rw [e.1, e.2, h] at this; cases this
theorem quick_c (n d qn qd : Int) (hn : I64m n) (hd : I64m d) (hz : d ≠ 0) (h : Num.lowN n d = qn ∧ Num.lowD n d = qd) (w : World) :
    Calls Tryz.prog 51 #[.int .i64 n, .int .i64 d] w fun e w' => e = .returned (ratV qn qd) ∧ Below w.heap.size w w' := by
  rw [← h.1, ← h.2]; exact quick_any n d hn hd hz w

set_option maxHeartbeats 1600000 in
theorem refRight_low (n d : Int) (h : d < 1) (w : World) :
    Calls Tryz.prog 32 #[ratV n d] w fun e w' => e = .returned (.bool false) ∧ Below w.heap.size w w' := by
  go_enter Tryz.func32, Tryz.ntmps32
  go_wp2
  go_ret
  exact ⟨rfl, by (repeat' (first | (with_reducible exact Below.refl _ _) | (with_reducible assumption) | (with_reducible refine bdn ?_ _) | (with_reducible refine Below.drew ?_) | (with_reducible refine Below.alloc ?_ ?_ _) | (with_reducible refine Below.setCell ?_ ?_ _) | go_size))⟩

set_option maxHeartbeats 4000000 in
theorem refRight_small (n d : Int) (hd : ¬ d < 1) (h1 : smB n = true) (h2 : smB d = true) (w : World) :
    Calls Tryz.prog 32 #[ratV n d] w fun e w' => e = .returned (.bool (Num.rtB n d)) ∧ Below w.heap.size w w' := by
  have G1 := Lib.hid h1; have G2 := Lib.hid h2
  have BN := Lib.hid (smB_b h1); have BD := Lib.hid (smB_b h2); clear h1 h2
  have HD := Lib.hid (show 1 ≤ d by omega)
  obtain ⟨qn, hqn⟩ : ∃ q, Num.lowN n d = q := ⟨_, rfl⟩
  obtain ⟨qd, hqd⟩ : ∃ q, Num.lowD n d = q := ⟨_, rfl⟩
  have key : (Num.rtB n d = true ∧ qn = n ∧ qd = d) ∨ (Num.rtB n d = false ∧ ¬ qn = n) ∨ (Num.rtB n d = false ∧ qn = n ∧ ¬ qd = d) := by
    cases h : Num.rtB n d
    · have := Num.rt_not_low HD.out h
      rw [hqn, hqd] at this
      by_cases e : qn = n
      · exact .inr (.inr ⟨rfl, e, fun e2 => this ⟨e, e2⟩⟩)
      · exact .inr (.inl ⟨rfl, e⟩)
    · have := Num.rt_low h
      exact .inl ⟨rfl, hqn.symm.trans this.1, hqd.symm.trans this.2⟩
  have HQ := Lib.hid (And.intro hqn hqd); clear hqn hqd
  have body : ∀ r : Bool, (r = true ∧ qn = n ∧ qd = d) ∨ (r = false ∧ ¬ qn = n) ∨ (r = false ∧ qn = n ∧ ¬ qd = d) → Calls Tryz.prog 32 #[ratV n d] w fun e w' => e = .returned (.bool r) ∧ Below w.heap.size w w' := by
    intro r hr
    go_enter Tryz.func32, Tryz.ntmps32
    go_wp2_with fail
    refine (small_c n true G1.out _).mono ?_; rintro e w1 ⟨rfl, rfl⟩
    go_wp2_with fail
    refine (small_c d true G2.out _).mono ?_; rintro e w1 ⟨rfl, rfl⟩
    rcases hr with ⟨rfl, e1, e2⟩ | ⟨rfl, e1⟩ | ⟨rfl, e1, e2⟩
    all_goals
      go_wp2_with fail
      go_region_held3 (fun w' => w'.cell? ⟨w.heap.size, 0, none⟩ = some (.int .i64 n) ∧ w'.cell? ⟨w.heap.size, 1, none⟩ = some (.int .i64 d)) (first | (simp [*, go_sem]; done))
        ((go_at_call 51; refine (quick_c n d qn qd ⟨by have := BN.out; omega, by have := BN.out; omega⟩ ⟨by have := BD.out; omega, by have := BD.out; omega⟩ (by have := HD.out; omega) HQ.out _).mono ?_; rintro e w1 ⟨rfl, hb⟩; have xx0 := bk hb w.heap.size 0 (v := .int .i64 n) (by simp [go_sem]) (by simp); have xx1 := bk hb w.heap.size 1 (v := .int .i64 d) (by simp [go_sem]) (by simp); have KB : Hid (Below w.heap.size w w1) := Lib.hid (Below.trans (by (repeat' (first | (with_reducible exact Below.refl _ _) | (with_reducible assumption) | (with_reducible refine bdn ?_ _) | (with_reducible refine Below.drew ?_) | (with_reducible refine Below.alloc ?_ ?_ _) | (with_reducible refine Below.setCell ?_ ?_ _) | go_size))) (hb.mono (B' := w.heap.size) (by simp))); clear hb))
      all_goals
        go_wp2
        go_ret
        exact ⟨by simp [*], by repeat' (first | exact KB.out | refine bdn ?_ _ | refine Below.drew ?_)⟩
  exact body _ key
end Go.Proofs.YtnccllelmbcdcaaGreatDoor
