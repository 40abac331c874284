/- The reference of layer 1: lowest in lowest terms, small, quick, Make. Conditions: those in each theorem. -/
import Derived.Test.YtnccllelmbcdcaaGreatDoorRk
namespace Go.Proofs.YtnccllelmbcdcaaGreatDoor
open Go.RowKit

theorem lowest_row (sN sD : Bool) (v u : Value) (x y : List Int) (w : World) (hv : RowV w v x) (hu : RowV w u y) (hx : x.length ≤ 100000) (hy : y.length ≤ 100000) (ox : Dig.okL x) (oy : Dig.okL y) (hp : 0 < Dig.val y) :
    Calls Tryz.prog 52 #[.agg #[.bool sN, v], .agg #[.bool sD, u]] w fun e w' => e = .returned (.tuple #[ratV (Num.resN (Num.sgn sN (Dig.val x)) (Num.sgn sD (Dig.val y))) (Num.resD (Num.sgn sN (Dig.val x)) (Num.sgn sD (Dig.val y))), .bool (Num.okB (Num.sgn sN (Dig.val x)) (Num.sgn sD (Dig.val y)))]) ∧ Below w.heap.size w w' := by
  have hN := Dig.val_nonneg ox
  obtain ⟨e1, e2, e3⟩ := Num.lowest_eq (s := sN) (t := sD) hN hp
  have hG := Num.gcdI_pos hN hp
  have hA : 0 ≤ Dig.val x / Num.gcdI (Dig.val x) (Dig.val y) := Int.ediv_nonneg hN (by omega)
  have hB : 0 ≤ Dig.val y / Num.gcdI (Dig.val x) (Dig.val y) := Int.ediv_nonneg (by omega) (by omega)
  have f := Num.fit_pair (s := (sN != sD)) hA hB
  refine (lowest_raw sN sD _ _ _ _ v u x y w hv hu hx hy ox oy hp ⟨rfl, rfl⟩ ⟨rfl, rfl⟩).mono fun e w' ⟨he, hb⟩ => ⟨he.trans ?_, hb⟩
  rw [← e1, ← e2, ← e3]
  rw [f]
  cases hf : Num.fitsB (sN != sD) (Dig.val x / Num.gcdI (Dig.val x) (Dig.val y)) (Dig.val y / Num.gcdI (Dig.val x) (Dig.val y))
  · unfold Num.fitN Num.fitD; rw [hf]; rfl
  · have g := Num.fit_num (s := (sN != sD)) (d := Dig.val y / Num.gcdI (Dig.val x) (Dig.val y)) hA (f.trans hf)
    unfold Num.fitN Num.fitD; rw [hf, g.1, g.2]; rfl

def I64m (n : Int) : Prop := -9223372036854775807 ≤ n ∧ n ≤ 9223372036854775807

/-- Small, as the reference asks it. -/
def smB (n : Int) : Bool := decide (-1000000000 < n ∧ n < 1000000000)
theorem smB_t {n : Int} (h1 : -1000000000 < n) (h2 : n < 1000000000) : smB n = true := decide_eq_true ⟨h1, h2⟩
theorem smB_f {n : Int} (h : ¬ (-1000000000 < n ∧ n < 1000000000)) : smB n = false := decide_eq_false h
theorem smB_b {n : Int} (h : smB n = true) : -1000000000 < n ∧ n < 1000000000 := of_decide_eq_true h

theorem small_any (n : Int) (w : World) : Calls Tryz.prog 50 #[.int .i64 n] w fun e w' => e = .returned (.bool (smB n)) ∧ w' = w := by
  go_enter Tryz.func50, Tryz.ntmps50
  by_cases h1 : -1000000000 < n
  · by_cases h2 : n < 1000000000
    · have hs := Lib.hid (smB_t h1 h2)
      go_wp2
      go_ret
      exact ⟨by rw [hs.out]; rfl, rfl⟩
    · have hs := Lib.hid (smB_f (n := n) (by omega))
      go_wp2
      go_ret
      exact ⟨by rw [hs.out]; rfl, rfl⟩
  · have hs := Lib.hid (smB_f (n := n) (by omega))
    go_wp2
    go_ret
    exact ⟨by rw [hs.out]; rfl, rfl⟩
end Go.Proofs.YtnccllelmbcdcaaGreatDoor
