/-
  The walks of ratio: operate at its five operations.
-/
import Derived.Test.YtnccllelmbcdcaaGreatDoorWl
namespace Go.Proofs.YtnccllelmbcdcaaGreatDoor
open Go.RowKit

set_option maxHeartbeats 4000000 in
theorem operate_sum (a b c d rn rd : Int) (rb : Bool)
    (hr1 : ∀ w, Calls Tryz.prog 31 #[ratV a b] w fun e w' => e = .returned (.bool true) ∧ ∃ nq, w' = (w.alloc (.cells #[.int .i64 a, .int .i64 b] 25)).drewN nq)
    (hr2 : ∀ w, Calls Tryz.prog 31 #[ratV c d] w fun e w' => e = .returned (.bool true) ∧ ∃ nq, w' = (w.alloc (.cells #[.int .i64 c, .int .i64 d] 25)).drewN nq)
    (s t : Bool) (an ad bn bd : Int)
    (c1 : ∀ w, Calls Tryz.prog 67 #[ratV a b] w fun e w' => e = .returned (fracV s an ad) ∧ Below w.heap.size w w')
    (c2 : ∀ w, Calls Tryz.prog 67 #[ratV c d] w fun e w' => e = .returned (fracV t bn bd) ∧ Below w.heap.size w w')
    (c3 : ∀ w, Calls Tryz.prog 44 #[fracV s an ad, fracV t bn bd] w fun e w' => e = .returned (.tuple #[ratV rn rd, .bool rb]) ∧ Below w.heap.size w w') (w : World) :
    Calls Tryz.prog 43 #[ratV a b, ratV c d, .func (.func 44) #[] #[]] w fun e w' => e = .returned (.tuple #[ratV rn rd, .bool rb]) ∧ Below w.heap.size w w' := by
  have R1 := Lib.hid hr1; have R2 := Lib.hid hr2; have C1 := Lib.hid c1; have C2 := Lib.hid c2; have C3 := Lib.hid c3
  clear hr1 hr2 c1 c2 c3
  go_enter Tryz.func43, Tryz.ntmps43
  go_wp2_with fail
  refine (R1.out _).mono ?_; rintro e w' ⟨rfl, nq, rfl⟩
  go_wp2_with fail
  refine (R2.out _).mono ?_; rintro e w' ⟨rfl, nq2, rfl⟩
  go_upto_region 3 with fail
  go_region_held3 (fun w' => w'.cell? ⟨w.heap.size, 0, none⟩ = some (.int .i64 a) ∧ w'.cell? ⟨w.heap.size, 1, none⟩ = some (.int .i64 b) ∧ w'.cell? ⟨w.heap.size + 1, 0, none⟩ = some (.int .i64 c) ∧ w'.cell? ⟨w.heap.size + 1, 1, none⟩ = some (.int .i64 d)) (simp [*, go_sem, World.cell?_alloc_past])
    (first
      | (go_at_call_of 67 (Value.agg #[Value.int IntKind.i64 a, Value.int IntKind.i64 b]); refine (C1.out _).mono ?_; rintro e w5 ⟨rfl, hb5⟩; have e0 := bk hb5 (w.heap.size) 0 (v := .int .i64 a) (by simp [*, go_sem]) (by first | omega | (simp; done) | (simp; omega)); have e1 := bk hb5 (w.heap.size) 1 (v := .int .i64 b) (by simp [*, go_sem]) (by first | omega | (simp; done) | (simp; omega)); have e2 := bk hb5 (w.heap.size + 1) 0 (v := .int .i64 c) (by simp [*, go_sem]) (by first | omega | (simp; done) | (simp; omega)); have e3 := bk hb5 (w.heap.size + 1) 1 (v := .int .i64 d) (by simp [*, go_sem]) (by first | omega | (simp; done) | (simp; omega)); obtain ⟨xa, xb, xc, xd, xe⟩ := box2 hb5 (w.heap.size + 1 + 1) (a := .int .i64 0) (b := .int .i64 0) (by simp [*, go_sem]) (by simp [*, go_sem]) (by simp [*, go_sem]) (by simp [*, go_sem]) (by first | omega | (simp; done) | (simp; omega)) (by first | omega | (simp; done) | (simp; omega)); have hB5 := hb5.mono (B' := w.heap.size) (by first | omega | (simp; done) | (simp; omega)); clear hb5)
      | (go_at_call_of 67 (Value.agg #[Value.int IntKind.i64 c, Value.int IntKind.i64 d]); refine (C2.out _).mono ?_; rintro e w6 ⟨rfl, hb6⟩; have f0 := bk hb6 (w.heap.size) 0 (v := .int .i64 a) (by simp [*, go_sem]) (by first | omega | (simp; done) | (simp; omega)); have f1 := bk hb6 (w.heap.size) 1 (v := .int .i64 b) (by simp [*, go_sem]) (by first | omega | (simp; done) | (simp; omega)); have f2 := bk hb6 (w.heap.size + 1) 0 (v := .int .i64 c) (by simp [*, go_sem]) (by first | omega | (simp; done) | (simp; omega)); have f3 := bk hb6 (w.heap.size + 1) 1 (v := .int .i64 d) (by simp [*, go_sem]) (by first | omega | (simp; done) | (simp; omega)); obtain ⟨ya, yb, yc, yd, ye⟩ := box2 hb6 (w.heap.size + 1 + 1) (a := .int .i64 0) (b := .int .i64 0) (by simp [*, go_sem]) (by simp [*, go_sem]) (by simp [*, go_sem]) (by simp [*, go_sem]) (by first | omega | (simp; done) | (simp; omega)) (by first | omega | (simp; done) | (simp; omega)); have hB6 := hb6.mono (B' := w.heap.size) (by first | omega | (simp; done) | (simp; omega)); clear hb6)
      | (go_at_call 44; refine (C3.out _).mono ?_; rintro e w7 ⟨rfl, hb7⟩; have g0 := bk hb7 (w.heap.size) 0 (v := .int .i64 a) (by simp [*, go_sem]) (by first | omega | (simp; done) | (simp; omega)); have g1 := bk hb7 (w.heap.size) 1 (v := .int .i64 b) (by simp [*, go_sem]) (by first | omega | (simp; done) | (simp; omega)); have g2 := bk hb7 (w.heap.size + 1) 0 (v := .int .i64 c) (by simp [*, go_sem]) (by first | omega | (simp; done) | (simp; omega)); have g3 := bk hb7 (w.heap.size + 1) 1 (v := .int .i64 d) (by simp [*, go_sem]) (by first | omega | (simp; done) | (simp; omega)); obtain ⟨za, zb, zc, zd, ze⟩ := box2 hb7 (w.heap.size + 1 + 1) (a := .int .i64 0) (b := .int .i64 0) (by simp [*, go_sem]) (by simp [*, go_sem]) (by simp [*, go_sem]) (by simp [*, go_sem]) (by first | omega | (simp; done) | (simp; omega)) (by first | omega | (simp; done) | (simp; omega)); have hB7 := hb7.mono (B' := w.heap.size) (by first | omega | (simp; done) | (simp; omega)); clear hb7))
  all_goals
    go_wp2
    refine bodyPost_ret (v := .tuple #[ratV rn rd, .bool rb]) (by simp [results, Tryz.results43, go_sem, za, zb]) rfl ⟨rfl, ?_⟩
    repeat' (first | (with_reducible exact Below.refl _ _) | (with_reducible refine Below.trans ?_ hB7) | (with_reducible refine Below.trans ?_ hB6) | (with_reducible refine Below.trans ?_ hB5) | (with_reducible refine bdn ?_ _) | (with_reducible refine Below.drew ?_) | (with_reducible refine Below.alloc ?_ ?_ _) | (with_reducible refine Below.setCell ?_ ?_ _) | go_size)

set_option maxHeartbeats 4000000 in
theorem operate_sub (a b c d rn rd : Int) (rb : Bool)
    (hr1 : ∀ w, Calls Tryz.prog 31 #[ratV a b] w fun e w' => e = .returned (.bool true) ∧ ∃ nq, w' = (w.alloc (.cells #[.int .i64 a, .int .i64 b] 25)).drewN nq)
    (hr2 : ∀ w, Calls Tryz.prog 31 #[ratV c d] w fun e w' => e = .returned (.bool true) ∧ ∃ nq, w' = (w.alloc (.cells #[.int .i64 c, .int .i64 d] 25)).drewN nq)
    (s t : Bool) (an ad bn bd : Int)
    (c1 : ∀ w, Calls Tryz.prog 67 #[ratV a b] w fun e w' => e = .returned (fracV s an ad) ∧ Below w.heap.size w w')
    (c2 : ∀ w, Calls Tryz.prog 67 #[ratV c d] w fun e w' => e = .returned (fracV t bn bd) ∧ Below w.heap.size w w')
    (c3 : ∀ w, Calls Tryz.prog 58 #[fracV s an ad, fracV t bn bd] w fun e w' => e = .returned (.tuple #[ratV rn rd, .bool rb]) ∧ Below w.heap.size w w') (w : World) :
    Calls Tryz.prog 43 #[ratV a b, ratV c d, .func (.func 58) #[] #[]] w fun e w' => e = .returned (.tuple #[ratV rn rd, .bool rb]) ∧ Below w.heap.size w w' := by
  have R1 := Lib.hid hr1; have R2 := Lib.hid hr2; have C1 := Lib.hid c1; have C2 := Lib.hid c2; have C3 := Lib.hid c3
  clear hr1 hr2 c1 c2 c3
  go_enter Tryz.func43, Tryz.ntmps43
  go_wp2_with fail
  refine (R1.out _).mono ?_; rintro e w' ⟨rfl, nq, rfl⟩
  go_wp2_with fail
  refine (R2.out _).mono ?_; rintro e w' ⟨rfl, nq2, rfl⟩
  go_upto_region 3 with fail
  go_region_held3 (fun w' => w'.cell? ⟨w.heap.size, 0, none⟩ = some (.int .i64 a) ∧ w'.cell? ⟨w.heap.size, 1, none⟩ = some (.int .i64 b) ∧ w'.cell? ⟨w.heap.size + 1, 0, none⟩ = some (.int .i64 c) ∧ w'.cell? ⟨w.heap.size + 1, 1, none⟩ = some (.int .i64 d)) (simp [*, go_sem, World.cell?_alloc_past])
    (first
      | (go_at_call_of 67 (Value.agg #[Value.int IntKind.i64 a, Value.int IntKind.i64 b]); refine (C1.out _).mono ?_; rintro e w5 ⟨rfl, hb5⟩; have e0 := bk hb5 (w.heap.size) 0 (v := .int .i64 a) (by simp [*, go_sem]) (by first | omega | (simp; done) | (simp; omega)); have e1 := bk hb5 (w.heap.size) 1 (v := .int .i64 b) (by simp [*, go_sem]) (by first | omega | (simp; done) | (simp; omega)); have e2 := bk hb5 (w.heap.size + 1) 0 (v := .int .i64 c) (by simp [*, go_sem]) (by first | omega | (simp; done) | (simp; omega)); have e3 := bk hb5 (w.heap.size + 1) 1 (v := .int .i64 d) (by simp [*, go_sem]) (by first | omega | (simp; done) | (simp; omega)); obtain ⟨xa, xb, xc, xd, xe⟩ := box2 hb5 (w.heap.size + 1 + 1) (a := .int .i64 0) (b := .int .i64 0) (by simp [*, go_sem]) (by simp [*, go_sem]) (by simp [*, go_sem]) (by simp [*, go_sem]) (by first | omega | (simp; done) | (simp; omega)) (by first | omega | (simp; done) | (simp; omega)); have hB5 := hb5.mono (B' := w.heap.size) (by first | omega | (simp; done) | (simp; omega)); clear hb5)
      | (go_at_call_of 67 (Value.agg #[Value.int IntKind.i64 c, Value.int IntKind.i64 d]); refine (C2.out _).mono ?_; rintro e w6 ⟨rfl, hb6⟩; have f0 := bk hb6 (w.heap.size) 0 (v := .int .i64 a) (by simp [*, go_sem]) (by first | omega | (simp; done) | (simp; omega)); have f1 := bk hb6 (w.heap.size) 1 (v := .int .i64 b) (by simp [*, go_sem]) (by first | omega | (simp; done) | (simp; omega)); have f2 := bk hb6 (w.heap.size + 1) 0 (v := .int .i64 c) (by simp [*, go_sem]) (by first | omega | (simp; done) | (simp; omega)); have f3 := bk hb6 (w.heap.size + 1) 1 (v := .int .i64 d) (by simp [*, go_sem]) (by first | omega | (simp; done) | (simp; omega)); obtain ⟨ya, yb, yc, yd, ye⟩ := box2 hb6 (w.heap.size + 1 + 1) (a := .int .i64 0) (b := .int .i64 0) (by simp [*, go_sem]) (by simp [*, go_sem]) (by simp [*, go_sem]) (by simp [*, go_sem]) (by first | omega | (simp; done) | (simp; omega)) (by first | omega | (simp; done) | (simp; omega)); have hB6 := hb6.mono (B' := w.heap.size) (by first | omega | (simp; done) | (simp; omega)); clear hb6)
      | (go_at_call 58; refine (C3.out _).mono ?_; rintro e w7 ⟨rfl, hb7⟩; have g0 := bk hb7 (w.heap.size) 0 (v := .int .i64 a) (by simp [*, go_sem]) (by first | omega | (simp; done) | (simp; omega)); have g1 := bk hb7 (w.heap.size) 1 (v := .int .i64 b) (by simp [*, go_sem]) (by first | omega | (simp; done) | (simp; omega)); have g2 := bk hb7 (w.heap.size + 1) 0 (v := .int .i64 c) (by simp [*, go_sem]) (by first | omega | (simp; done) | (simp; omega)); have g3 := bk hb7 (w.heap.size + 1) 1 (v := .int .i64 d) (by simp [*, go_sem]) (by first | omega | (simp; done) | (simp; omega)); obtain ⟨za, zb, zc, zd, ze⟩ := box2 hb7 (w.heap.size + 1 + 1) (a := .int .i64 0) (b := .int .i64 0) (by simp [*, go_sem]) (by simp [*, go_sem]) (by simp [*, go_sem]) (by simp [*, go_sem]) (by first | omega | (simp; done) | (simp; omega)) (by first | omega | (simp; done) | (simp; omega)); have hB7 := hb7.mono (B' := w.heap.size) (by first | omega | (simp; done) | (simp; omega)); clear hb7))
  all_goals
    go_wp2
    refine bodyPost_ret (v := .tuple #[ratV rn rd, .bool rb]) (by simp [results, Tryz.results43, go_sem, za, zb]) rfl ⟨rfl, ?_⟩
    repeat' (first | (with_reducible exact Below.refl _ _) | (with_reducible refine Below.trans ?_ hB7) | (with_reducible refine Below.trans ?_ hB6) | (with_reducible refine Below.trans ?_ hB5) | (with_reducible refine bdn ?_ _) | (with_reducible refine Below.drew ?_) | (with_reducible refine Below.alloc ?_ ?_ _) | (with_reducible refine Below.setCell ?_ ?_ _) | go_size)

set_option maxHeartbeats 4000000 in
theorem operate_mul (a b c d rn rd : Int) (rb : Bool)
    (hr1 : ∀ w, Calls Tryz.prog 31 #[ratV a b] w fun e w' => e = .returned (.bool true) ∧ ∃ nq, w' = (w.alloc (.cells #[.int .i64 a, .int .i64 b] 25)).drewN nq)
    (hr2 : ∀ w, Calls Tryz.prog 31 #[ratV c d] w fun e w' => e = .returned (.bool true) ∧ ∃ nq, w' = (w.alloc (.cells #[.int .i64 c, .int .i64 d] 25)).drewN nq)
    (s t : Bool) (an ad bn bd : Int)
    (c1 : ∀ w, Calls Tryz.prog 67 #[ratV a b] w fun e w' => e = .returned (fracV s an ad) ∧ Below w.heap.size w w')
    (c2 : ∀ w, Calls Tryz.prog 67 #[ratV c d] w fun e w' => e = .returned (fracV t bn bd) ∧ Below w.heap.size w w')
    (c3 : ∀ w, Calls Tryz.prog 45 #[fracV s an ad, fracV t bn bd] w fun e w' => e = .returned (.tuple #[ratV rn rd, .bool rb]) ∧ Below w.heap.size w w') (w : World) :
    Calls Tryz.prog 43 #[ratV a b, ratV c d, .func (.func 45) #[] #[]] w fun e w' => e = .returned (.tuple #[ratV rn rd, .bool rb]) ∧ Below w.heap.size w w' := by
  have R1 := Lib.hid hr1; have R2 := Lib.hid hr2; have C1 := Lib.hid c1; have C2 := Lib.hid c2; have C3 := Lib.hid c3
  clear hr1 hr2 c1 c2 c3
  go_enter Tryz.func43, Tryz.ntmps43
  go_wp2_with fail
  refine (R1.out _).mono ?_; rintro e w' ⟨rfl, nq, rfl⟩
  go_wp2_with fail
  refine (R2.out _).mono ?_; rintro e w' ⟨rfl, nq2, rfl⟩
  go_upto_region 3 with fail
  go_region_held3 (fun w' => w'.cell? ⟨w.heap.size, 0, none⟩ = some (.int .i64 a) ∧ w'.cell? ⟨w.heap.size, 1, none⟩ = some (.int .i64 b) ∧ w'.cell? ⟨w.heap.size + 1, 0, none⟩ = some (.int .i64 c) ∧ w'.cell? ⟨w.heap.size + 1, 1, none⟩ = some (.int .i64 d)) (simp [*, go_sem, World.cell?_alloc_past])
    (first
      | (go_at_call_of 67 (Value.agg #[Value.int IntKind.i64 a, Value.int IntKind.i64 b]); refine (C1.out _).mono ?_; rintro e w5 ⟨rfl, hb5⟩; have e0 := bk hb5 (w.heap.size) 0 (v := .int .i64 a) (by simp [*, go_sem]) (by first | omega | (simp; done) | (simp; omega)); have e1 := bk hb5 (w.heap.size) 1 (v := .int .i64 b) (by simp [*, go_sem]) (by first | omega | (simp; done) | (simp; omega)); have e2 := bk hb5 (w.heap.size + 1) 0 (v := .int .i64 c) (by simp [*, go_sem]) (by first | omega | (simp; done) | (simp; omega)); have e3 := bk hb5 (w.heap.size + 1) 1 (v := .int .i64 d) (by simp [*, go_sem]) (by first | omega | (simp; done) | (simp; omega)); obtain ⟨xa, xb, xc, xd, xe⟩ := box2 hb5 (w.heap.size + 1 + 1) (a := .int .i64 0) (b := .int .i64 0) (by simp [*, go_sem]) (by simp [*, go_sem]) (by simp [*, go_sem]) (by simp [*, go_sem]) (by first | omega | (simp; done) | (simp; omega)) (by first | omega | (simp; done) | (simp; omega)); have hB5 := hb5.mono (B' := w.heap.size) (by first | omega | (simp; done) | (simp; omega)); clear hb5)
      | (go_at_call_of 67 (Value.agg #[Value.int IntKind.i64 c, Value.int IntKind.i64 d]); refine (C2.out _).mono ?_; rintro e w6 ⟨rfl, hb6⟩; have f0 := bk hb6 (w.heap.size) 0 (v := .int .i64 a) (by simp [*, go_sem]) (by first | omega | (simp; done) | (simp; omega)); have f1 := bk hb6 (w.heap.size) 1 (v := .int .i64 b) (by simp [*, go_sem]) (by first | omega | (simp; done) | (simp; omega)); have f2 := bk hb6 (w.heap.size + 1) 0 (v := .int .i64 c) (by simp [*, go_sem]) (by first | omega | (simp; done) | (simp; omega)); have f3 := bk hb6 (w.heap.size + 1) 1 (v := .int .i64 d) (by simp [*, go_sem]) (by first | omega | (simp; done) | (simp; omega)); obtain ⟨ya, yb, yc, yd, ye⟩ := box2 hb6 (w.heap.size + 1 + 1) (a := .int .i64 0) (b := .int .i64 0) (by simp [*, go_sem]) (by simp [*, go_sem]) (by simp [*, go_sem]) (by simp [*, go_sem]) (by first | omega | (simp; done) | (simp; omega)) (by first | omega | (simp; done) | (simp; omega)); have hB6 := hb6.mono (B' := w.heap.size) (by first | omega | (simp; done) | (simp; omega)); clear hb6)
      | (go_at_call 45; refine (C3.out _).mono ?_; rintro e w7 ⟨rfl, hb7⟩; have g0 := bk hb7 (w.heap.size) 0 (v := .int .i64 a) (by simp [*, go_sem]) (by first | omega | (simp; done) | (simp; omega)); have g1 := bk hb7 (w.heap.size) 1 (v := .int .i64 b) (by simp [*, go_sem]) (by first | omega | (simp; done) | (simp; omega)); have g2 := bk hb7 (w.heap.size + 1) 0 (v := .int .i64 c) (by simp [*, go_sem]) (by first | omega | (simp; done) | (simp; omega)); have g3 := bk hb7 (w.heap.size + 1) 1 (v := .int .i64 d) (by simp [*, go_sem]) (by first | omega | (simp; done) | (simp; omega)); obtain ⟨za, zb, zc, zd, ze⟩ := box2 hb7 (w.heap.size + 1 + 1) (a := .int .i64 0) (b := .int .i64 0) (by simp [*, go_sem]) (by simp [*, go_sem]) (by simp [*, go_sem]) (by simp [*, go_sem]) (by first | omega | (simp; done) | (simp; omega)) (by first | omega | (simp; done) | (simp; omega)); have hB7 := hb7.mono (B' := w.heap.size) (by first | omega | (simp; done) | (simp; omega)); clear hb7))
  all_goals
    go_wp2
    refine bodyPost_ret (v := .tuple #[ratV rn rd, .bool rb]) (by simp [results, Tryz.results43, go_sem, za, zb]) rfl ⟨rfl, ?_⟩
    repeat' (first | (with_reducible exact Below.refl _ _) | (with_reducible refine Below.trans ?_ hB7) | (with_reducible refine Below.trans ?_ hB6) | (with_reducible refine Below.trans ?_ hB5) | (with_reducible refine bdn ?_ _) | (with_reducible refine Below.drew ?_) | (with_reducible refine Below.alloc ?_ ?_ _) | (with_reducible refine Below.setCell ?_ ?_ _) | go_size)

set_option maxHeartbeats 4000000 in
theorem operate_quo (a b c d rn rd : Int) (rb : Bool)
    (hr1 : ∀ w, Calls Tryz.prog 31 #[ratV a b] w fun e w' => e = .returned (.bool true) ∧ ∃ nq, w' = (w.alloc (.cells #[.int .i64 a, .int .i64 b] 25)).drewN nq)
    (hr2 : ∀ w, Calls Tryz.prog 31 #[ratV c d] w fun e w' => e = .returned (.bool true) ∧ ∃ nq, w' = (w.alloc (.cells #[.int .i64 c, .int .i64 d] 25)).drewN nq)
    (s t : Bool) (an ad bn bd : Int)
    (c1 : ∀ w, Calls Tryz.prog 67 #[ratV a b] w fun e w' => e = .returned (fracV s an ad) ∧ Below w.heap.size w w')
    (c2 : ∀ w, Calls Tryz.prog 67 #[ratV c d] w fun e w' => e = .returned (fracV t bn bd) ∧ Below w.heap.size w w')
    (c3 : ∀ w, Calls Tryz.prog 46 #[fracV s an ad, fracV t bn bd] w fun e w' => e = .returned (.tuple #[ratV rn rd, .bool rb]) ∧ Below w.heap.size w w') (w : World) :
    Calls Tryz.prog 43 #[ratV a b, ratV c d, .func (.func 46) #[] #[]] w fun e w' => e = .returned (.tuple #[ratV rn rd, .bool rb]) ∧ Below w.heap.size w w' := by
  have R1 := Lib.hid hr1; have R2 := Lib.hid hr2; have C1 := Lib.hid c1; have C2 := Lib.hid c2; have C3 := Lib.hid c3
  clear hr1 hr2 c1 c2 c3
  go_enter Tryz.func43, Tryz.ntmps43
  go_wp2_with fail
  refine (R1.out _).mono ?_; rintro e w' ⟨rfl, nq, rfl⟩
  go_wp2_with fail
  refine (R2.out _).mono ?_; rintro e w' ⟨rfl, nq2, rfl⟩
  go_upto_region 3 with fail
  go_region_held3 (fun w' => w'.cell? ⟨w.heap.size, 0, none⟩ = some (.int .i64 a) ∧ w'.cell? ⟨w.heap.size, 1, none⟩ = some (.int .i64 b) ∧ w'.cell? ⟨w.heap.size + 1, 0, none⟩ = some (.int .i64 c) ∧ w'.cell? ⟨w.heap.size + 1, 1, none⟩ = some (.int .i64 d)) (simp [*, go_sem, World.cell?_alloc_past])
    (first
      | (go_at_call_of 67 (Value.agg #[Value.int IntKind.i64 a, Value.int IntKind.i64 b]); refine (C1.out _).mono ?_; rintro e w5 ⟨rfl, hb5⟩; have e0 := bk hb5 (w.heap.size) 0 (v := .int .i64 a) (by simp [*, go_sem]) (by first | omega | (simp; done) | (simp; omega)); have e1 := bk hb5 (w.heap.size) 1 (v := .int .i64 b) (by simp [*, go_sem]) (by first | omega | (simp; done) | (simp; omega)); have e2 := bk hb5 (w.heap.size + 1) 0 (v := .int .i64 c) (by simp [*, go_sem]) (by first | omega | (simp; done) | (simp; omega)); have e3 := bk hb5 (w.heap.size + 1) 1 (v := .int .i64 d) (by simp [*, go_sem]) (by first | omega | (simp; done) | (simp; omega)); obtain ⟨xa, xb, xc, xd, xe⟩ := box2 hb5 (w.heap.size + 1 + 1) (a := .int .i64 0) (b := .int .i64 0) (by simp [*, go_sem]) (by simp [*, go_sem]) (by simp [*, go_sem]) (by simp [*, go_sem]) (by first | omega | (simp; done) | (simp; omega)) (by first | omega | (simp; done) | (simp; omega)); have hB5 := hb5.mono (B' := w.heap.size) (by first | omega | (simp; done) | (simp; omega)); clear hb5)
      | (go_at_call_of 67 (Value.agg #[Value.int IntKind.i64 c, Value.int IntKind.i64 d]); refine (C2.out _).mono ?_; rintro e w6 ⟨rfl, hb6⟩; have f0 := bk hb6 (w.heap.size) 0 (v := .int .i64 a) (by simp [*, go_sem]) (by first | omega | (simp; done) | (simp; omega)); have f1 := bk hb6 (w.heap.size) 1 (v := .int .i64 b) (by simp [*, go_sem]) (by first | omega | (simp; done) | (simp; omega)); have f2 := bk hb6 (w.heap.size + 1) 0 (v := .int .i64 c) (by simp [*, go_sem]) (by first | omega | (simp; done) | (simp; omega)); have f3 := bk hb6 (w.heap.size + 1) 1 (v := .int .i64 d) (by simp [*, go_sem]) (by first | omega | (simp; done) | (simp; omega)); obtain ⟨ya, yb, yc, yd, ye⟩ := box2 hb6 (w.heap.size + 1 + 1) (a := .int .i64 0) (b := .int .i64 0) (by simp [*, go_sem]) (by simp [*, go_sem]) (by simp [*, go_sem]) (by simp [*, go_sem]) (by first | omega | (simp; done) | (simp; omega)) (by first | omega | (simp; done) | (simp; omega)); have hB6 := hb6.mono (B' := w.heap.size) (by first | omega | (simp; done) | (simp; omega)); clear hb6)
      | (go_at_call 46; refine (C3.out _).mono ?_; rintro e w7 ⟨rfl, hb7⟩; have g0 := bk hb7 (w.heap.size) 0 (v := .int .i64 a) (by simp [*, go_sem]) (by first | omega | (simp; done) | (simp; omega)); have g1 := bk hb7 (w.heap.size) 1 (v := .int .i64 b) (by simp [*, go_sem]) (by first | omega | (simp; done) | (simp; omega)); have g2 := bk hb7 (w.heap.size + 1) 0 (v := .int .i64 c) (by simp [*, go_sem]) (by first | omega | (simp; done) | (simp; omega)); have g3 := bk hb7 (w.heap.size + 1) 1 (v := .int .i64 d) (by simp [*, go_sem]) (by first | omega | (simp; done) | (simp; omega)); obtain ⟨za, zb, zc, zd, ze⟩ := box2 hb7 (w.heap.size + 1 + 1) (a := .int .i64 0) (b := .int .i64 0) (by simp [*, go_sem]) (by simp [*, go_sem]) (by simp [*, go_sem]) (by simp [*, go_sem]) (by first | omega | (simp; done) | (simp; omega)) (by first | omega | (simp; done) | (simp; omega)); have hB7 := hb7.mono (B' := w.heap.size) (by first | omega | (simp; done) | (simp; omega)); clear hb7))
  all_goals
    go_wp2
    refine bodyPost_ret (v := .tuple #[ratV rn rd, .bool rb]) (by simp [results, Tryz.results43, go_sem, za, zb]) rfl ⟨rfl, ?_⟩
    repeat' (first | (with_reducible exact Below.refl _ _) | (with_reducible refine Below.trans ?_ hB7) | (with_reducible refine Below.trans ?_ hB6) | (with_reducible refine Below.trans ?_ hB5) | (with_reducible refine bdn ?_ _) | (with_reducible refine Below.drew ?_) | (with_reducible refine Below.alloc ?_ ?_ _) | (with_reducible refine Below.setCell ?_ ?_ _) | go_size)

set_option maxHeartbeats 4000000 in
theorem operate_cmp (a b c d rn rd : Int) (rb : Bool)
    (hr1 : ∀ w, Calls Tryz.prog 31 #[ratV a b] w fun e w' => e = .returned (.bool true) ∧ ∃ nq, w' = (w.alloc (.cells #[.int .i64 a, .int .i64 b] 25)).drewN nq)
    (hr2 : ∀ w, Calls Tryz.prog 31 #[ratV c d] w fun e w' => e = .returned (.bool true) ∧ ∃ nq, w' = (w.alloc (.cells #[.int .i64 c, .int .i64 d] 25)).drewN nq)
    (s t : Bool) (an ad bn bd : Int)
    (c1 : ∀ w, Calls Tryz.prog 67 #[ratV a b] w fun e w' => e = .returned (fracV s an ad) ∧ Below w.heap.size w w')
    (c2 : ∀ w, Calls Tryz.prog 67 #[ratV c d] w fun e w' => e = .returned (fracV t bn bd) ∧ Below w.heap.size w w')
    (c3 : ∀ w, Calls Tryz.prog 48 #[fracV s an ad, fracV t bn bd] w fun e w' => e = .returned (.tuple #[ratV rn rd, .bool rb]) ∧ Below w.heap.size w w') (w : World) :
    Calls Tryz.prog 43 #[ratV a b, ratV c d, .func (.func 48) #[] #[]] w fun e w' => e = .returned (.tuple #[ratV rn rd, .bool rb]) ∧ Below w.heap.size w w' := by
  have R1 := Lib.hid hr1; have R2 := Lib.hid hr2; have C1 := Lib.hid c1; have C2 := Lib.hid c2; have C3 := Lib.hid c3
  clear hr1 hr2 c1 c2 c3
  go_enter Tryz.func43, Tryz.ntmps43
  go_wp2_with fail
  refine (R1.out _).mono ?_; rintro e w' ⟨rfl, nq, rfl⟩
  go_wp2_with fail
  refine (R2.out _).mono ?_; rintro e w' ⟨rfl, nq2, rfl⟩
  go_upto_region 3 with fail
  go_region_held3 (fun w' => w'.cell? ⟨w.heap.size, 0, none⟩ = some (.int .i64 a) ∧ w'.cell? ⟨w.heap.size, 1, none⟩ = some (.int .i64 b) ∧ w'.cell? ⟨w.heap.size + 1, 0, none⟩ = some (.int .i64 c) ∧ w'.cell? ⟨w.heap.size + 1, 1, none⟩ = some (.int .i64 d)) (simp [*, go_sem, World.cell?_alloc_past])
    (first
      | (go_at_call_of 67 (Value.agg #[Value.int IntKind.i64 a, Value.int IntKind.i64 b]); refine (C1.out _).mono ?_; rintro e w5 ⟨rfl, hb5⟩; have e0 := bk hb5 (w.heap.size) 0 (v := .int .i64 a) (by simp [*, go_sem]) (by first | omega | (simp; done) | (simp; omega)); have e1 := bk hb5 (w.heap.size) 1 (v := .int .i64 b) (by simp [*, go_sem]) (by first | omega | (simp; done) | (simp; omega)); have e2 := bk hb5 (w.heap.size + 1) 0 (v := .int .i64 c) (by simp [*, go_sem]) (by first | omega | (simp; done) | (simp; omega)); have e3 := bk hb5 (w.heap.size + 1) 1 (v := .int .i64 d) (by simp [*, go_sem]) (by first | omega | (simp; done) | (simp; omega)); obtain ⟨xa, xb, xc, xd, xe⟩ := box2 hb5 (w.heap.size + 1 + 1) (a := .int .i64 0) (b := .int .i64 0) (by simp [*, go_sem]) (by simp [*, go_sem]) (by simp [*, go_sem]) (by simp [*, go_sem]) (by first | omega | (simp; done) | (simp; omega)) (by first | omega | (simp; done) | (simp; omega)); have hB5 := hb5.mono (B' := w.heap.size) (by first | omega | (simp; done) | (simp; omega)); clear hb5)
      | (go_at_call_of 67 (Value.agg #[Value.int IntKind.i64 c, Value.int IntKind.i64 d]); refine (C2.out _).mono ?_; rintro e w6 ⟨rfl, hb6⟩; have f0 := bk hb6 (w.heap.size) 0 (v := .int .i64 a) (by simp [*, go_sem]) (by first | omega | (simp; done) | (simp; omega)); have f1 := bk hb6 (w.heap.size) 1 (v := .int .i64 b) (by simp [*, go_sem]) (by first | omega | (simp; done) | (simp; omega)); have f2 := bk hb6 (w.heap.size + 1) 0 (v := .int .i64 c) (by simp [*, go_sem]) (by first | omega | (simp; done) | (simp; omega)); have f3 := bk hb6 (w.heap.size + 1) 1 (v := .int .i64 d) (by simp [*, go_sem]) (by first | omega | (simp; done) | (simp; omega)); obtain ⟨ya, yb, yc, yd, ye⟩ := box2 hb6 (w.heap.size + 1 + 1) (a := .int .i64 0) (b := .int .i64 0) (by simp [*, go_sem]) (by simp [*, go_sem]) (by simp [*, go_sem]) (by simp [*, go_sem]) (by first | omega | (simp; done) | (simp; omega)) (by first | omega | (simp; done) | (simp; omega)); have hB6 := hb6.mono (B' := w.heap.size) (by first | omega | (simp; done) | (simp; omega)); clear hb6)
      | (go_at_call 48; refine (C3.out _).mono ?_; rintro e w7 ⟨rfl, hb7⟩; have g0 := bk hb7 (w.heap.size) 0 (v := .int .i64 a) (by simp [*, go_sem]) (by first | omega | (simp; done) | (simp; omega)); have g1 := bk hb7 (w.heap.size) 1 (v := .int .i64 b) (by simp [*, go_sem]) (by first | omega | (simp; done) | (simp; omega)); have g2 := bk hb7 (w.heap.size + 1) 0 (v := .int .i64 c) (by simp [*, go_sem]) (by first | omega | (simp; done) | (simp; omega)); have g3 := bk hb7 (w.heap.size + 1) 1 (v := .int .i64 d) (by simp [*, go_sem]) (by first | omega | (simp; done) | (simp; omega)); obtain ⟨za, zb, zc, zd, ze⟩ := box2 hb7 (w.heap.size + 1 + 1) (a := .int .i64 0) (b := .int .i64 0) (by simp [*, go_sem]) (by simp [*, go_sem]) (by simp [*, go_sem]) (by simp [*, go_sem]) (by first | omega | (simp; done) | (simp; omega)) (by first | omega | (simp; done) | (simp; omega)); have hB7 := hb7.mono (B' := w.heap.size) (by first | omega | (simp; done) | (simp; omega)); clear hb7))
  all_goals
    go_wp2
    refine bodyPost_ret (v := .tuple #[ratV rn rd, .bool rb]) (by simp [results, Tryz.results43, go_sem, za, zb]) rfl ⟨rfl, ?_⟩
    repeat' (first | (with_reducible exact Below.refl _ _) | (with_reducible refine Below.trans ?_ hB7) | (with_reducible refine Below.trans ?_ hB6) | (with_reducible refine Below.trans ?_ hB5) | (with_reducible refine bdn ?_ _) | (with_reducible refine Below.drew ?_) | (with_reducible refine Below.alloc ?_ ?_ _) | (with_reducible refine Below.setCell ?_ ?_ _) | go_size)

end Go.Proofs.YtnccllelmbcdcaaGreatDoor
