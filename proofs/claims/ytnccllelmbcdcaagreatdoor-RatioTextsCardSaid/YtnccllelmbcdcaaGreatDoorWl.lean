/-
  The walks of ratio: the closure of Quo, the one place where arguments are checked.
-/
import Derived.Test.YtnccllelmbcdcaaGreatDoorWk
namespace Go.Proofs.YtnccllelmbcdcaaGreatDoor
open Go.RowKit

set_option maxHeartbeats 2000000 in
theorem quoClosure_zero (s t : Bool) (an ad bd : Int) (w : World) :
    Calls Tryz.prog 46 #[fracV s an ad, fracV t 0 bd] w fun e w' => e = .returned (.tuple #[ratV 0 1, .bool false]) ∧ Below w.heap.size w w' := by
  go_enter Tryz.func46, Tryz.ntmps46
  go_wp2_with fail
  refine (noNumber_any _).mono ?_; rintro e w2 ⟨rfl, hb2⟩
  obtain ⟨sa, sb, sc, sd, se⟩ := box2 hb2 (w.heap.size + 1 + 1) (a := .int .i64 0) (b := .int .i64 0) (by first | assumption | (simp [go_sem]; done) | omega | (simp; omega)) (by first | assumption | (simp [go_sem]; done) | omega | (simp; omega)) (by first | assumption | (simp [go_sem]; done) | omega | (simp; omega)) (by first | assumption | (simp [go_sem]; done) | omega | (simp; omega)) (by first | assumption | (simp [go_sem]; done) | omega | (simp; omega)) (by first | assumption | (simp [go_sem]; done) | omega | (simp; omega))
  have hB2 := hb2.mono (B' := w.heap.size) (by simp; omega); clear hb2
  go_wp2
  refine bodyPost_ret (v := .tuple #[ratV 0 1, .bool false]) (by simp [results, Tryz.results46, go_sem, sa, sb]) rfl ⟨rfl, ?_⟩
  refine Below.setCell (Below.setCell (Below.trans ?_ hB2) ?_ _) ?_ _ <;> (repeat' (first | (with_reducible exact Below.refl _ _) | (with_reducible assumption) | (with_reducible refine bdn ?_ _) | (with_reducible refine Below.drew ?_) | (with_reducible refine Below.alloc ?_ ?_ _) | (with_reducible refine Below.setCell ?_ ?_ _) | go_size))

set_option maxHeartbeats 2000000 in
theorem quoClosure_raw (s t : Bool) (an ad bn bd rn rd : Int) (rb : Bool) (hz : (bn == 0) = false) (c : ∀ w, Calls Tryz.prog 45 #[fracV s an ad, fracV t bd bn] w fun e w' => e = .returned (.tuple #[ratV rn rd, .bool rb]) ∧ Below w.heap.size w w') (w : World) :
    Calls Tryz.prog 46 #[fracV s an ad, fracV t bn bd] w fun e w' => e = .returned (.tuple #[ratV rn rd, .bool rb]) ∧ Below w.heap.size w w' := by
  have C := Lib.hid c; clear c
  go_enter Tryz.func46, Tryz.ntmps46
  go_wp2
  go_region_held3 (fun w' => w'.cell? ⟨w.heap.size, 0, none⟩ = some (.bool s) ∧ w'.cell? ⟨w.heap.size, 1, none⟩ = some (.int .u64 an) ∧ w'.cell? ⟨w.heap.size, 2, none⟩ = some (.int .u64 ad) ∧ w'.cell? ⟨w.heap.size + 1, 0, none⟩ = some (.bool t) ∧ w'.cell? ⟨w.heap.size + 1, 1, none⟩ = some (.int .u64 bn) ∧ w'.cell? ⟨w.heap.size + 1, 2, none⟩ = some (.int .u64 bd)) (simp [*, go_sem, World.cell?_alloc_past])
    (first
      | (go_at_call 47; refine (inverted_any t bn bd _).mono ?_; rintro e w5 ⟨rfl, hb5⟩; have e0 := bk hb5 (w.heap.size) 0 (v := .bool s) (by simp [*, go_sem]) (by first | omega | (simp; done) | (simp; omega)); have e1 := bk hb5 (w.heap.size) 1 (v := .int .u64 an) (by simp [*, go_sem]) (by first | omega | (simp; done) | (simp; omega)); have e2 := bk hb5 (w.heap.size) 2 (v := .int .u64 ad) (by simp [*, go_sem]) (by first | omega | (simp; done) | (simp; omega)); have e3 := bk hb5 (w.heap.size + 1) 0 (v := .bool t) (by simp [*, go_sem]) (by first | omega | (simp; done) | (simp; omega)); have e4 := bk hb5 (w.heap.size + 1) 1 (v := .int .u64 bn) (by simp [*, go_sem]) (by first | omega | (simp; done) | (simp; omega)); have e5 := bk hb5 (w.heap.size + 1) 2 (v := .int .u64 bd) (by simp [*, go_sem]) (by first | omega | (simp; done) | (simp; omega)); obtain ⟨xa, xb, xc, xd, xe⟩ := box2 hb5 (w.heap.size + 1 + 1) (a := .int .i64 0) (b := .int .i64 0) (by simp [*, go_sem]) (by simp [*, go_sem]) (by simp [*, go_sem]) (by simp [*, go_sem]) (by first | omega | (simp; done) | (simp; omega)) (by first | omega | (simp; done) | (simp; omega)); have hB5 := hb5.mono (B' := w.heap.size) (by first | omega | (simp; done) | (simp; omega)); clear hb5)
      | (go_at_call 45; refine (C.out _).mono ?_; rintro e w6 ⟨rfl, hb6⟩; have f0 := bk hb6 (w.heap.size) 0 (v := .bool s) (by simp [*, go_sem]) (by first | omega | (simp; done) | (simp; omega)); have f1 := bk hb6 (w.heap.size) 1 (v := .int .u64 an) (by simp [*, go_sem]) (by first | omega | (simp; done) | (simp; omega)); have f2 := bk hb6 (w.heap.size) 2 (v := .int .u64 ad) (by simp [*, go_sem]) (by first | omega | (simp; done) | (simp; omega)); have f3 := bk hb6 (w.heap.size + 1) 0 (v := .bool t) (by simp [*, go_sem]) (by first | omega | (simp; done) | (simp; omega)); have f4 := bk hb6 (w.heap.size + 1) 1 (v := .int .u64 bn) (by simp [*, go_sem]) (by first | omega | (simp; done) | (simp; omega)); have f5 := bk hb6 (w.heap.size + 1) 2 (v := .int .u64 bd) (by simp [*, go_sem]) (by first | omega | (simp; done) | (simp; omega)); obtain ⟨ya, yb, yc, yd, ye⟩ := box2 hb6 (w.heap.size + 1 + 1) (a := .int .i64 0) (b := .int .i64 0) (by simp [*, go_sem]) (by simp [*, go_sem]) (by simp [*, go_sem]) (by simp [*, go_sem]) (by first | omega | (simp; done) | (simp; omega)) (by first | omega | (simp; done) | (simp; omega)); have hB6 := hb6.mono (B' := w.heap.size) (by first | omega | (simp; done) | (simp; omega)); clear hb6))
  all_goals
    go_wp2
    refine bodyPost_ret (v := .tuple #[ratV rn rd, .bool rb]) (by simp [results, Tryz.results46, go_sem, ya, yb]) rfl ⟨rfl, ?_⟩
    repeat' (first | (with_reducible exact Below.refl _ _) | (with_reducible refine Below.trans ?_ hB6) | (with_reducible refine Below.trans ?_ hB5) | (with_reducible refine bdn ?_ _) | (with_reducible refine Below.drew ?_) | (with_reducible refine Below.alloc ?_ ?_ _) | (with_reducible refine Below.setCell ?_ ?_ _) | go_size)

end Go.Proofs.YtnccllelmbcdcaaGreatDoor
