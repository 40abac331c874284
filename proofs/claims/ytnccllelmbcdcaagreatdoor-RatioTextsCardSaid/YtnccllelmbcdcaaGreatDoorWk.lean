/-
  The walks of ratio: the closures, the one place where arguments are checked.
-/
import Derived.Test.YtnccllelmbcdcaaGreatDoorWj
namespace Go.Proofs.YtnccllelmbcdcaaGreatDoor
open Go.RowKit

set_option maxHeartbeats 1000000 in
theorem cmpClosure_raw (s t : Bool) (an ad bn bd v : Int) (c : ∀ w, Calls Tryz.prog 49 #[fracV s an ad, fracV t bn bd] w fun e w' => e = .returned (.int .i64 v) ∧ Below w.heap.size w w') (w : World) :
    Calls Tryz.prog 48 #[fracV s an ad, fracV t bn bd] w fun e w' => e = .returned (.tuple #[ratV v 1, .bool true]) ∧ Below w.heap.size w w' := by
  have C := Lib.hid c; clear c
  go_enter Tryz.func48, Tryz.ntmps48
  go_wp2_with fail
  refine (C.out _).mono ?_; rintro e w1 ⟨rfl, hb1⟩
  obtain ⟨ra, rb, rc, rd, re⟩ := box2 hb1 (w.heap.size + 1 + 1) (a := .int .i64 0) (b := .int .i64 0) (by first | assumption | (simp [go_sem]; done) | omega | (simp; omega)) (by first | assumption | (simp [go_sem]; done) | omega | (simp; omega)) (by first | assumption | (simp [go_sem]; done) | omega | (simp; omega)) (by first | assumption | (simp [go_sem]; done) | omega | (simp; omega)) (by first | assumption | (simp [go_sem]; done) | omega | (simp; omega)) (by first | assumption | (simp [go_sem]; done) | omega | (simp; omega))
  have hB := Lib.hid (hb1.mono (B' := w.heap.size) (by simp; omega)); clear hb1
  go_wp2_with fail
  refine (of_any v _).mono ?_; rintro e w2 ⟨rfl, hb2⟩
  obtain ⟨sa, sb, sc, sd, se⟩ := box2 hb2 (w.heap.size + 1 + 1) (a := .int .i64 0) (b := .int .i64 0) (by first | assumption | (simp [go_sem]; done) | omega | (simp; omega)) (by first | assumption | (simp [go_sem]; done) | omega | (simp; omega)) (by first | assumption | (simp [go_sem]; done) | omega | (simp; omega)) (by first | assumption | (simp [go_sem]; done) | omega | (simp; omega)) (by first | assumption | (simp [go_sem]; done) | omega | (simp; omega)) (by first | assumption | (simp [go_sem]; done) | omega | (simp; omega))
  have hB2 := Lib.hid (hb2.mono (B' := w.heap.size) (by omega)); clear hb2
  go_wp2
  refine bodyPost_ret (v := .tuple #[ratV v 1, .bool true]) (by simp [results, Tryz.results48, go_sem, sa, sb]) rfl ⟨rfl, ?_⟩
  refine Below.setCell (Below.setCell (Below.trans (Below.trans ?_ hB.out) hB2.out) ?_ _) ?_ _ <;> (repeat' (first | (with_reducible exact Below.refl _ _) | (with_reducible assumption) | (with_reducible refine bdn ?_ _) | (with_reducible refine Below.drew ?_) | (with_reducible refine Below.alloc ?_ ?_ _) | (with_reducible refine Below.setCell ?_ ?_ _) | go_size))

set_option maxHeartbeats 2000000 in
theorem subClosure_raw (s t : Bool) (an ad bn bd rn rd : Int) (rb : Bool) (c : ∀ w, Calls Tryz.prog 44 #[fracV s an ad, fracV (!t) bn bd] w fun e w' => e = .returned (.tuple #[ratV rn rd, .bool rb]) ∧ Below w.heap.size w w') (w : World) :
    Calls Tryz.prog 58 #[fracV s an ad, fracV t bn bd] w fun e w' => e = .returned (.tuple #[ratV rn rd, .bool rb]) ∧ Below w.heap.size w w' := by
  have C := Lib.hid c; clear c
  go_enter Tryz.func58, Tryz.ntmps58
  go_wp2
  go_region_held3 (fun w' => (w'.cell? ⟨w.heap.size, 0, none⟩ = some (.bool s) ∧ w'.cell? ⟨w.heap.size, 1, none⟩ = some (.int .u64 an) ∧ w'.cell? ⟨w.heap.size, 2, none⟩ = some (.int .u64 ad)) ∧ w'.cell? ⟨w.heap.size + 1, 0, none⟩ = some (.bool t) ∧ w'.cell? ⟨w.heap.size + 1, 1, none⟩ = some (.int .u64 bn) ∧ w'.cell? ⟨w.heap.size + 1, 2, none⟩ = some (.int .u64 bd)) (simp [*, go_sem, World.cell?_alloc_past])
    (first
      | (go_at_call 59; refine (negated_any t bn bd _).mono ?_; rintro e w5 ⟨rfl, hb5⟩; have e1 := bk hb5 w.heap.size 0 (v := .bool s) (by simp [*, go_sem]) (by simp; omega); have e2 := bk hb5 w.heap.size 1 (v := .int .u64 an) (by simp [*, go_sem]) (by simp; omega); have e3 := bk hb5 w.heap.size 2 (v := .int .u64 ad) (by simp [*, go_sem]) (by simp; omega); have e4 := bk hb5 (w.heap.size + 1) 0 (v := .bool t) (by simp [*, go_sem]) (by simp); have e5 := bk hb5 (w.heap.size + 1) 1 (v := .int .u64 bn) (by simp [*, go_sem]) (by simp); have e6 := bk hb5 (w.heap.size + 1) 2 (v := .int .u64 bd) (by simp [*, go_sem]) (by simp); obtain ⟨xa, xb, xc, xd, xe⟩ := box2 hb5 (w.heap.size + 1 + 1) (a := .int .i64 0) (b := .int .i64 0) (by simp [*, go_sem]) (by simp [*, go_sem]) (by simp [*, go_sem]) (by simp [*, go_sem]) (by simp) (by simp); have hB5 := hb5.mono (B' := w.heap.size) (by simp; omega); clear hb5)
      | (go_at_call 44; refine (C.out _).mono ?_; rintro e w6 ⟨rfl, hb6⟩; have f1 := bk hb6 w.heap.size 0 (v := .bool s) (by simp [*, go_sem]) (by omega); have f2 := bk hb6 w.heap.size 1 (v := .int .u64 an) (by simp [*, go_sem]) (by omega); have f3 := bk hb6 w.heap.size 2 (v := .int .u64 ad) (by simp [*, go_sem]) (by omega); have f4 := bk hb6 (w.heap.size + 1) 0 (v := .bool t) (by simp [*, go_sem]) (by omega); have f5 := bk hb6 (w.heap.size + 1) 1 (v := .int .u64 bn) (by simp [*, go_sem]) (by omega); have f6 := bk hb6 (w.heap.size + 1) 2 (v := .int .u64 bd) (by simp [*, go_sem]) (by omega); obtain ⟨ya, yb, yc, yd, ye⟩ := box2 hb6 (w.heap.size + 1 + 1) (a := .int .i64 0) (b := .int .i64 0) (by simp [*, go_sem]) (by simp [*, go_sem]) (by simp [*, go_sem]) (by simp [*, go_sem]) (by omega) (by omega); have hB6 := hb6.mono (B' := w.heap.size) (by omega); clear hb6))
  all_goals
    go_wp2
    refine bodyPost_ret (v := .tuple #[ratV rn rd, .bool rb]) (by simp [results, Tryz.results58, go_sem, ya, yb]) rfl ⟨rfl, ?_⟩
    repeat' (first | (with_reducible exact Below.refl _ _) | (with_reducible refine Below.trans ?_ hB6) | (with_reducible refine Below.trans ?_ hB5) | (with_reducible refine bdn ?_ _) | (with_reducible refine Below.drew ?_) | (with_reducible refine Below.alloc ?_ ?_ _) | (with_reducible refine Below.setCell ?_ ?_ _) | go_size)
end Go.Proofs.YtnccllelmbcdcaaGreatDoor
