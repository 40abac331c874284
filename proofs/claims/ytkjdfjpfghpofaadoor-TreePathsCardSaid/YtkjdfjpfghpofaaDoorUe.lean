/- The program's ways: the closures that say where a way ends. -/
import Derived.Test.YtkjdfjpfghpofaaDoorUb
import Derived.Laws.EntriesVeiled
import Derived.Deep.AppendLies
namespace Go.Proofs.YtkjdfjpfghpofaaDoor
open Go.RowKit

/-- A part as a value. -/
def partC (p : Tree.Part) : List Value := [.int .i64 p.a, .int .i64 p.b, .bool p.first]
abbrev partV (a b : Nat) (f : Bool) : Value := .agg #[.int .i64 a, .int .i64 b, .bool f]

set_option maxRecDepth 100000 in
theorem isOne_c (a b : Nat) (f : Bool) (h : a ≤ b) (hb : (b : Int) ≤ 9223372036854775807) (w : World) :
    Calls Tryd.prog 60 #[partV a b f] w fun e w' => e = .returned (.bool (Tree.isOne ⟨a, b, f⟩)) ∧ Below w.heap.size w w' := by
  have z1 : IntKind.i64.wrap ((b : Int) - (a : Int)) = (b : Int) - (a : Int) := wrap64 _ (by omega) (by omega)
  have e1 : (((b : Int) - (a : Int)) == 1) = (b - a == 1) := by
    by_cases h1 : b - a = 1
    · have : (b : Int) - (a : Int) = 1 := by omega
      simp [h1, this]
    · have : ¬ (b : Int) - (a : Int) = 1 := by omega
      have l : (((b : Int) - (a : Int)) == 1) = false := by simpa using this
      have r : (b - a == 1) = false := by simpa using h1
      rw [l, r]
  unfold Tree.isOne
  obtain ⟨v, hv⟩ : ∃ v, (b - a == 1) = v := ⟨_, rfl⟩
  rw [hv] at e1
  rw [hv]
  clear hv hb
  go_enter Tryd.func60, Tryd.ntmps60
  go_wp2
  go_ret
  exact ⟨rfl, (Below.refl _ w).alloc (Nat.le_refl _) _⟩

set_option maxRecDepth 100000 in
theorem endsAt_c (a b m g : Nat) (f : Bool) (w : World) (hg : w.cell? ⟨g, 0, none⟩ = some (.int .i64 m)) (hgl : g < w.heap.size) :
    Calls Tryd.prog 61 #[partV a b f, .pointer (some ⟨g, 0, none⟩)] w fun e w' => e = .returned (.bool (Tree.endsAt m ⟨a, b, f⟩)) ∧ Below w.heap.size w w' := by
  have n1 : ¬ g = w.heap.size := by omega
  have n2 : ¬ w.heap.size = g := by omega
  have e1 : ((b : Int) == (m : Int)) = (b == m) := by
    by_cases h1 : b = m
    · subst h1; simp
    · have : ¬ (b : Int) = (m : Int) := by omega
      have l : ((b : Int) == (m : Int)) = false := by simpa using this
      have r : (b == m) = false := by simpa using h1
      rw [l, r]
  unfold Tree.endsAt
  obtain ⟨v, hv⟩ : ∃ v, (b == m) = v := ⟨_, rfl⟩
  rw [hv] at e1
  rw [hv]
  clear hv
  go_enter Tryd.func61, Tryd.ntmps61
  go_wp2
  go_ret
  exact ⟨rfl, (Below.refl _ w).alloc (Nat.le_refl _) _⟩

/-- As Below, but for the block d. -/
structure ButW (d : Nat) (w w' : World) : Prop where
  os : w'.os = w.os
  tape : w'.tape = w.tape
  output : w'.output = w.output
  size : w.heap.size ≤ w'.heap.size
  block : ∀ k, k < w.heap.size → k ≠ d → w'.heap[k]? = w.heap[k]?
theorem ButW.of {d : Nat} {w w' : World} (h : Below w.heap.size w w') : ButW d w w' := ⟨h.os, h.tape, h.output, h.size, fun k hk _ => h.block k hk⟩
theorem ButW.trans {d : Nat} {x y z : World} (h : ButW d x y) (k : ButW d y z) : ButW d x z :=
  ⟨k.os.trans h.os, k.tape.trans h.tape, k.output.trans h.output, Nat.le_trans h.size k.size, fun j hj hd => (k.block j (Nat.lt_of_lt_of_le hj h.size) hd).trans (h.block j hj hd)⟩
theorem ButW.set {d : Nat} {x y : World} (h : ButW d x y) (i : Nat) (v : Value) : ButW d x (y.setCell ⟨d, i, none⟩ v) :=
  h.trans ⟨rfl, rfl, rfl, by simp [World.setCell], fun k _ hb => Below.heap_setCell _ _ _ _ hb⟩
theorem ButW.drew {d : Nat} {x y : World} (h : ButW d x y) : ButW d x y.drew := ⟨h.os, h.tape, h.output, h.size, h.block⟩
theorem ButW.cell {d : Nat} {w w' : World} (h : ButW d w w') {p : Addr} (hp : p.block < w.heap.size) (hd : p.block ≠ d) : w'.cell? p = w.cell? p := World.cell?_of_block (h.block _ hp hd)
theorem ButW.below {d B : Nat} {w0 w w' : World} (h : ButW d w w') (hb : Below B w0 w) (hB : B ≤ d) (hs : B ≤ w.heap.size) : Below B w0 w' :=
  hb.trans ⟨h.os, h.tape, h.output, h.size, fun k hk => h.block k (by omega) (by omega)⟩

/-- The block of a way. -/
def WayB (w : World) (d : Nat) (p : Tree.Part) (sl : Value) : Prop := w.heap[d]? = some (.cells #[.int .i64 p.a, .int .i64 p.b, .bool p.first, sl] 69 (0, 0))
theorem WayB.lt {w : World} {d : Nat} {p : Tree.Part} {sl : Value} (h : WayB w d p sl) : d < w.heap.size := by
  by_cases hlt : d < w.heap.size
  · exact hlt
  · have hn : w.heap[d]? = none := by simp; omega
    rw [WayB, hn] at h; cases h
theorem WayB.cells {w : World} {d : Nat} {p : Tree.Part} {sl : Value} (h : WayB w d p sl) :
    w.cell? ⟨d, 0, none⟩ = some (.int .i64 p.a) ∧ w.cell? ⟨d, 1, none⟩ = some (.int .i64 p.b) ∧ w.cell? ⟨d, 2, none⟩ = some (.bool p.first) ∧ w.cell? ⟨d, 3, none⟩ = some sl := by
  refine ⟨?_, ?_, ?_, ?_⟩ <;> rw [cell_of_row _ _ _ _ _ _ h] <;> rfl
theorem WayB.free {w : World} {d : Nat} {p : Tree.Part} {sl : Value} (h : WayB w d p sl) (i : Nat) : w.frozen? ⟨d, i, none⟩ = false := frozen_of_row w d i _ _ h
theorem WayB.keep {w w' : World} {d : Nat} {p : Tree.Part} {sl : Value} (h : WayB w d p sl) (hb : w'.heap[d]? = w.heap[d]?) : WayB w' d p sl := hb.trans h
theorem WayB.setEnd {w : World} {d : Nat} {p : Tree.Part} {sl : Value} (h : WayB w d p sl) (a b : Nat) (f : Bool) :
    WayB (((w.setCell ⟨d, 0, none⟩ (.int .i64 a)).setCell ⟨d, 1, none⟩ (.int .i64 b)).setCell ⟨d, 2, none⟩ (.bool f)) d ⟨a, b, f⟩ sl := by
  unfold WayB at *
  rw [heap_setCell_same _ d _ _ _ _ (heap_setCell_same _ d _ _ _ _ (heap_setCell_same w d 0 _ _ _ h))]
  rfl
theorem WayB.setRow {w : World} {d : Nat} {p : Tree.Part} {sl : Value} (h : WayB w d p sl) (sl' : Value) : WayB (w.setCell ⟨d, 3, none⟩ sl') d p sl' := by
  unfold WayB at *
  rw [heap_setCell_same w d 3 _ _ _ h]
  rfl
theorem WayB.past {w w' : World} {d : Nat} {p : Tree.Part} {sl : Value} (h : WayB w d p sl) (hb : Below w.heap.size w w') : WayB w' d p sl := h.keep (hb.block d h.lt)
end Go.Proofs.YtkjdfjpfghpofaaDoor
