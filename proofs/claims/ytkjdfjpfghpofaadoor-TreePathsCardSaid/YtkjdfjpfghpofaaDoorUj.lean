/- The program's ways: wayToString, wayToBeginning. -/
import Derived.Test.YtkjdfjpfghpofaaDoorUi
import Derived.Test.YtkjdfjpfghpofaaDoorUg
namespace Go.Proofs.YtkjdfjpfghpofaaDoor
open Go.RowKit

/-- A way in memory: its value, the halves in a row of the call's own. -/
def WayR (w : World) (base : Nat) (r : Tree.Part × List Tree.Part) (v : Value) : Prop :=
  ∃ a c, v = wayV r.1 (.slice a r.2.length c) ∧ w.ownsRow base 66 3 (.slice a r.2.length c) r.2.length (r.2.flatMap partC)

theorem own_set4 {w : World} {base : Nat} {e : TypeId} {size : Nat} {v : Value} {n : Nat} {xs : List Value} (h : w.ownsRow base e size v n xs) {d : Nat} (hd : d < base) (a b c u : Value) :
    ((((w.setCell ⟨d, 0, none⟩ a).setCell ⟨d, 1, none⟩ b).setCell ⟨d, 2, none⟩ c).setCell ⟨d, 3, none⟩ u).ownsRow base e size v n xs :=
  ownsRow_setCell_below (ownsRow_setCell_below (ownsRow_setCell_below (ownsRow_setCell_below h (a := ⟨d, 0, none⟩) hd a) (a := ⟨d, 1, none⟩) hd b) (a := ⟨d, 2, none⟩) hd c) (a := ⟨d, 3, none⟩) hd u
theorem Below.set4 {B : Nat} {a w : World} (h : Below B a w) {d : Nat} (hd : B ≤ d) (p q r u : Value) : Below B a ((((w.setCell ⟨d, 0, none⟩ p).setCell ⟨d, 1, none⟩ q).setCell ⟨d, 2, none⟩ r).setCell ⟨d, 3, none⟩ u) :=
  (((h.setCell hd p).setCell hd q).setCell hd r).setCell hd u

set_option maxRecDepth 100000 in
set_option maxHeartbeats 4000000 in
theorem wayToString_c (size n : Nat) (hn : n < size) (hmax : (size : Int) ≤ 9223372036854775807) (w : World) :
    Calls Tryd.prog 42 #[.int .i64 size, .int .i64 n] w fun e w' => ∃ v, e = .returned v ∧ WayR w' w.heap.size (Tree.down Tree.isOne n ⟨0, size, false⟩) v ∧ Below w.heap.size w w' := by
  have CW := fun w1 : World => wayDown_c 60 #[] Tree.isOne size n w1 (fun x hb hI hY => walkOne_c size ⟨0, size, false⟩ ⟨0, 0, false⟩ n _ _ _ _ x (by simp) (by simp) hn hmax hI hY)
  obtain ⟨⟨E, R⟩, hER⟩ : ∃ y, Tree.down Tree.isOne n ⟨0, size, false⟩ = y := ⟨_, rfl⟩
  rw [hER] at CW
  rw [hER]
  simp only at CW
  have HC := Lib.hid CW
  clear CW hER hn hmax
  go_enter Tryd.func42, Tryd.ntmps42
  go_wp2_with fail
  generalize hW : (w.alloc _) = W
  have hB : Below w.heap.size w W ∧ WayB W w.heap.size ⟨0, 0, false⟩ (.slice none 0 0) ∧ w.heap.size < W.heap.size := by
    rw [← hW]
    exact ⟨(Below.refl _ w).alloc (Nat.le_refl _) _, heap_alloc_new w _, by simp⟩
  have HB := Lib.hid hB
  clear hW hB
  refine (HC.out W).mono ?_
  rintro en w2 ⟨sl, rfl, hOwn, hb⟩
  have hY := HB.out.2.1.past hb
  obtain ⟨o0, o1, o2, o3⟩ := hY.cells
  have f0 := hY.free 0
  have f1 := hY.free 1
  have f2 := hY.free 2
  have f3 := hY.free 3
  have HF := Lib.hid (And.intro hY (And.intro hOwn (HB.out.1.trans (hb.mono HB.out.1.size))))
  obtain ⟨sa, sc, rfl⟩ := own_shape hOwn
  clear hY hOwn hb
  go_wp2_with fail
  exact bodyPost_ret (WayB.result (HF.out.1.setAll E _) Tryd.results42 _ rfl) rfl ⟨_, rfl, ⟨sa, sc, rfl, own_mono (own_set4 HF.out.2.1 HB.out.2.2 _ _ _ _) HB.out.1.size⟩, Below.set4 HF.out.2.2 (Nat.le_refl _) _ _ _ _⟩

set_option maxRecDepth 100000 in
set_option maxHeartbeats 4000000 in
theorem wayToBeginning_c (size m : Nat) (h0 : 0 < m) (hn : m ≤ size) (hmax : (size : Int) ≤ 9223372036854775807) (w : World) :
    Calls Tryd.prog 46 #[.int .i64 size, .int .i64 m] w fun e w' => ∃ v, e = .returned v ∧ WayR w' w.heap.size (Tree.down (Tree.endsAt m) (m - 1) ⟨0, size, false⟩) v ∧ Below w.heap.size w w' := by
  have CW := fun (w1 : World) (hc : w1.cell? ⟨w.heap.size, 0, none⟩ = some (.int .i64 m)) (hl : w.heap.size < w1.heap.size) => wayDown_c 61 #[.pointer (some ⟨w.heap.size, 0, none⟩)] (Tree.endsAt m) size (m - 1) w1 (fun x hb hI hY => walkEnds_c m w.heap.size size ⟨0, size, false⟩ ⟨0, 0, false⟩ (m - 1) _ _ _ _ x (by simp) (by simp) (by simp; omega) hmax hI (by omega) ((hb.cell (p := ⟨w.heap.size, 0, none⟩) hl).trans hc) (Nat.lt_of_lt_of_le hl hb.size) (by omega) hY)
  have e0 : ((m - 1 : Nat) : Int) = (m : Int) - 1 := by omega
  have z1 : IntKind.i64.wrap ((m : Int) - 1) = (m : Int) - 1 := wrap64 _ (by omega) (by omega)
  obtain ⟨⟨E, R⟩, hER⟩ : ∃ y, Tree.down (Tree.endsAt m) (m - 1) ⟨0, size, false⟩ = y := ⟨_, rfl⟩
  rw [hER] at CW
  rw [hER]
  simp only [e0] at CW
  have HC := Lib.hid CW
  clear CW hER hn hmax
  go_enter Tryd.func46, Tryd.ntmps46
  go_wp2_with fail
  generalize hW : ((w.alloc _).alloc _) = W
  have hB : Below w.heap.size w W ∧ WayB W (w.heap.size + 1) ⟨0, 0, false⟩ (.slice none 0 0) ∧ w.heap.size + 1 < W.heap.size ∧ W.cell? ⟨w.heap.size, 0, none⟩ = some (.int .i64 m) := by
    rw [← hW]
    refine ⟨((Below.refl _ w).alloc (Nat.le_refl _) _).alloc (by simp) _, ?_, by simp, by simp [go_sem]⟩
    unfold WayB
    simp [World.alloc, -World.alloc_eq, Array.getElem?_push, Array.getElem_push]
  have HB := Lib.hid hB
  clear hW hB
  refine (HC.out W HB.out.2.2.2 (by have := HB.out.2.2.1; omega)).mono ?_
  rintro en w2 ⟨sl, rfl, hOwn, hb⟩
  have hY := HB.out.2.1.past hb
  obtain ⟨o0, o1, o2, o3⟩ := hY.cells
  have f0 := hY.free 0
  have f1 := hY.free 1
  have f2 := hY.free 2
  have f3 := hY.free 3
  have HF := Lib.hid (And.intro hY (And.intro hOwn (HB.out.1.trans (hb.mono HB.out.1.size))))
  obtain ⟨sa, sc, rfl⟩ := own_shape hOwn
  clear hY hOwn hb
  go_wp2_with fail
  exact bodyPost_ret (WayB.result (HF.out.1.setAll E _) Tryd.results46 _ rfl) rfl ⟨_, rfl, ⟨sa, sc, rfl, own_mono (own_set4 HF.out.2.1 HB.out.2.2.1 _ _ _ _) HB.out.1.size⟩, Below.set4 HF.out.2.2 (by omega) _ _ _ _⟩
end Go.Proofs.YtkjdfjpfghpofaaDoor
