/- The program's ways: wayDown, wayToString, wayToBeginning. -/
import Derived.Test.YtkjdfjpfghpofaaDoorUf
namespace Go.Proofs.YtkjdfjpfghpofaaDoor
open Go.RowKit

theorem WayB.result {w : World} {d : Nat} {p : Tree.Part} {sl : Value} (h : WayB w d p sl) {fn : Func} {q : Tmp} (hr : fn.results = #[.cell q 69]) (tmps : Array Value) (hp : tmps.getD q undef = .pointer (some ⟨d, 0, none⟩)) :
    (results fn tmps).run Tryd.prog w = .ok (.agg #[.int .i64 p.a, .int .i64 p.b, .bool p.first, sl]) w := results_cell_row hr tmps w d 69 _ (0, 0) _ hp h Tryd.underlying69 rfl (by kernel_rfl)
theorem own_shape {w : World} {base : Nat} {e : TypeId} {size : Nat} {v : Value} {n : Nat} {xs : List Value} (h : w.ownsRow base e size v n xs) : ∃ a c, v = .slice a n c := by
  rcases h.2 with ⟨h1, h2⟩ | ⟨g, cap, cur, h1, _⟩
  · exact ⟨none, 0, by rw [h1, h2]⟩
  · exact ⟨_, _, h1⟩
theorem own_keep {w w' : World} {base : Nat} {e : TypeId} {size : Nat} {v : Value} {n : Nat} {xs : List Value} (h : w.ownsRow base e size v n xs) (hk : ∀ g, base ≤ g → w'.heap[g]? = w.heap[g]?) : w'.ownsRow base e size v n xs :=
  ⟨h.1, h.2.imp id fun ⟨g, cap, cur, hv, hg, hh, r⟩ => ⟨g, cap, cur, hv, hg, (hk g hg).trans hh, r⟩⟩
/-- A way as a value. -/
abbrev wayV (p : Tree.Part) (sl : Value) : Value := .agg #[.int .i64 p.a, .int .i64 p.b, .bool p.first, sl]
theorem WayB.setAll {w : World} {d : Nat} {p : Tree.Part} {sl : Value} (h : WayB w d p sl) (q : Tree.Part) (sl' : Value) :
    WayB ((((w.setCell ⟨d, 0, none⟩ (.int .i64 q.a)).setCell ⟨d, 1, none⟩ (.int .i64 q.b)).setCell ⟨d, 2, none⟩ (.bool q.first)).setCell ⟨d, 3, none⟩ sl') d q sl' := (h.setEnd q.a q.b q.first).setRow sl'

set_option maxRecDepth 100000 in
set_option maxHeartbeats 4000000 in
theorem wayDown_c (fn : FuncId) (caps : Array Value) (isE : Tree.Part → Bool) (size n : Nat) (w : World)
    (CW : ∀ x, Below w.heap.size w x → WalkI (.func (Fn.func fn) #[] caps) n (w.heap.size + 1) (w.heap.size + 1 + 1 + 1) w.heap.size (w.heap.size + 1 + 1 + 1 + 1) x → WayB x (w.heap.size + 1 + 1 + 1) ⟨0, 0, false⟩ (.slice none 0 0) →
      Calls Tryd.prog 67 #[partV 0 size false, .pointer (some ⟨w.heap.size + 1, 0, none⟩), .pointer (some ⟨w.heap.size + 1 + 1 + 1, 0, none⟩), .pointer (some ⟨w.heap.size, 0, none⟩), .pointer (some ⟨w.heap.size + 1 + 1 + 1 + 1, 0, none⟩)] x fun en x' => en = .returned (.tuple #[]) ∧ ButW (w.heap.size + 1 + 1 + 1) x x' ∧
        ∃ sl, WayB x' (w.heap.size + 1 + 1 + 1) (Tree.down isE n ⟨0, size, false⟩).1 sl ∧ x'.ownsRow x.heap.size 66 3 sl (Tree.down isE n ⟨0, size, false⟩).2.length ((Tree.down isE n ⟨0, size, false⟩).2.flatMap partC)) :
    Calls Tryd.prog 59 #[.int .i64 size, .int .i64 n, .func (Fn.func fn) #[] caps] w fun e w' => ∃ sl, e = .returned (wayV (Tree.down isE n ⟨0, size, false⟩).1 sl) ∧
      w'.ownsRow w.heap.size 66 3 sl (Tree.down isE n ⟨0, size, false⟩).2.length ((Tree.down isE n ⟨0, size, false⟩).2.flatMap partC) ∧ Below w.heap.size w w' := by
  obtain ⟨⟨E, R⟩, hER⟩ : ∃ y, Tree.down isE n ⟨0, size, false⟩ = y := ⟨_, rfl⟩
  rw [hER] at CW
  rw [hER]
  simp only at CW ⊢
  have HC := Lib.hid CW
  clear CW hER
  go_enter Tryd.func59, Tryd.ntmps59
  go_wp2_with fail
  generalize hW : (((((w.alloc _).alloc _).alloc _).alloc _).alloc _) = W
  have hB : Below w.heap.size w W := by
    rw [← hW]
    exact (((((Below.refl _ w).alloc (Nat.le_refl _) _).alloc (by simp) _).alloc (by simp; omega) _).alloc (by simp; omega) _).alloc (by simp; omega) _
  have hI : WalkI (.func (Fn.func fn) #[] caps) n (w.heap.size + 1) (w.heap.size + 1 + 1 + 1) w.heap.size (w.heap.size + 1 + 1 + 1 + 1) W := by
    rw [← hW]
    exact ⟨by simp [go_sem], by simp [go_sem], by simp [go_sem], by (simp <;> omega), by (simp <;> omega), by simp, by omega, by omega, by omega⟩
  have hY : WayB W (w.heap.size + 1 + 1 + 1) ⟨0, 0, false⟩ (.slice none 0 0) := by
    rw [← hW]
    unfold WayB
    simp [World.alloc, -World.alloc_eq, Array.getElem?_push, Array.getElem_push]
  have hZ : WayB W (w.heap.size + 1 + 1) ⟨0, 0, false⟩ (.slice none 0 0) := by
    rw [← hW]
    unfold WayB
    simp [World.alloc, -World.alloc_eq, Array.getElem?_push, Array.getElem_push]
  have HB := Lib.hid (And.intro hB hZ)
  clear hW
  refine (HC.out _ hB hI hY).mono ?_
  rintro en x' ⟨rfl, hBut, sl, hWay, hOwn⟩
  have hZ' : WayB x' (w.heap.size + 1 + 1) ⟨0, 0, false⟩ (.slice none 0 0) := hZ.keep (hBut.block _ hZ.lt (by omega))
  obtain ⟨d0, d1, d2, d3⟩ := hWay.cells
  obtain ⟨o0, o1, o2, o3⟩ := hZ'.cells
  have f0 := hZ'.free 0
  have f1 := hZ'.free 1
  have f2 := hZ'.free 2
  have f3 := hZ'.free 3
  have HF := Lib.hid (And.intro hBut (And.intro hZ' hOwn))
  obtain ⟨sa, sc, rfl⟩ := own_shape hOwn
  clear hB hI hY hZ hBut hWay hOwn hZ'
  go_wp2_with fail
  have hb5 : Below w.heap.size w x' := HF.out.1.below HB.out.1 (by omega) HB.out.1.size
  refine bodyPost_ret (WayB.result (HF.out.2.1.setAll E _) Tryd.results59 _ rfl) rfl ⟨_, rfl, ?_, ?_⟩
  · have h1 := own_mono (ownsRow_setCell_below (ownsRow_setCell_below (ownsRow_setCell_below (ownsRow_setCell_below HF.out.2.2 (a := ⟨w.heap.size + 1 + 1, 0, none⟩) (by have := HB.out.2.lt; exact this) (.int .i64 E.a)) (a := ⟨w.heap.size + 1 + 1, 1, none⟩) (by have := HB.out.2.lt; exact this) (.int .i64 E.b)) (a := ⟨w.heap.size + 1 + 1, 2, none⟩) (by have := HB.out.2.lt; exact this) (.bool E.first)) (a := ⟨w.heap.size + 1 + 1, 3, none⟩) (by have := HB.out.2.lt; exact this) (.slice sa R.length sc)) HB.out.1.size
    exact h1
  · exact (((hb5.setCell (by show _ ≤ _ + 1 + 1; omega) _).setCell (by show _ ≤ _ + 1 + 1; omega) _).setCell (by show _ ≤ _ + 1 + 1; omega) _).setCell (by show _ ≤ _ + 1 + 1; omega) _
end Go.Proofs.YtkjdfjpfghpofaaDoor
