/-
  The walks of ratio: sums of fractions.
-/
import Derived.Test.YtnccllelmbcdcaaGreatDoorWg
namespace Go.Proofs.YtnccllelmbcdcaaGreatDoor
open Go.RowKit

set_option maxHeartbeats 8000000 in
theorem sum_raw (s t S : Bool) (an ad bn bd g b1 a1 L R T m rest N bq D rn rd : Int) (rb : Bool)
    (q1 : IntKind.u64.wrap (bd.tdiv g) = b1) (q2 : IntKind.u64.wrap (ad.tdiv g) = a1) (q3 : IntKind.u64.wrap (bd.tdiv rest) = bq) (gz : ¬ g = 0) (rz : ¬ rest = 0)
    (c1 : ∀ w, Calls Tryz.prog 41 #[.int .u64 ad, .int .u64 bd] w fun e w' => e = .returned (.int .u64 g) ∧ ∃ nq, w' = w.drewN nq)
    (c2 : ∀ w, Calls Tryz.prog 68 #[.int .u64 an, .int .u64 b1] w fun e w' => e = .returned (wideV L) ∧ w' = w.alloc (.cells #[.int .u64 (Num.hi L), .int .u64 (Num.lo L)] 62))
    (c3 : ∀ w, Calls Tryz.prog 68 #[.int .u64 bn, .int .u64 a1] w fun e w' => e = .returned (wideV R) ∧ w' = w.alloc (.cells #[.int .u64 (Num.hi R), .int .u64 (Num.lo R)] 62))
    (c4 : ∀ w, Calls Tryz.prog 69 #[.bool s, wideV L, .bool t, wideV R] w fun e w' => e = .returned (.tuple #[.bool S, wideV T]) ∧ Below w.heap.size w w')
    (c5 : ∀ w, Calls Tryz.prog 70 #[wideV T, .int .u64 g] w fun e w' => e = .returned (.int .u64 m) ∧ ∃ nq, w' = (w.alloc (.cells #[.int .u64 (Num.hi T), .int .u64 (Num.lo T)] 62)).drewN nq)
    (c6 : ∀ w, Calls Tryz.prog 41 #[.int .u64 m, .int .u64 g] w fun e w' => e = .returned (.int .u64 rest) ∧ ∃ nq, w' = w.drewN nq)
    (c7 : ∀ w, Calls Tryz.prog 71 #[wideV T, .int .u64 rest] w fun e w' => e = .returned (wideV N) ∧ Below w.heap.size w w')
    (c8 : ∀ w, Calls Tryz.prog 68 #[.int .u64 a1, .int .u64 bq] w fun e w' => e = .returned (wideV D) ∧ w' = w.alloc (.cells #[.int .u64 (Num.hi D), .int .u64 (Num.lo D)] 62))
    (c9 : ∀ w, Calls Tryz.prog 42 #[.bool S, wideV N, wideV D] w fun e w' => e = .returned (.tuple #[ratV rn rd, .bool rb]) ∧ Below w.heap.size w w') (w : World) :
    Calls Tryz.prog 44 #[fracV s an ad, fracV t bn bd] w fun e w' => e = .returned (.tuple #[ratV rn rd, .bool rb]) ∧ Below w.heap.size w w' := by
  have C1 := Lib.hid c1; have C2 := Lib.hid c2; have C3 := Lib.hid c3; have C4 := Lib.hid c4; have C5 := Lib.hid c5; have C6 := Lib.hid c6; have C7 := Lib.hid c7; have C8 := Lib.hid c8; have C9 := Lib.hid c9
  clear c1 c2 c3 c4 c5 c6 c7 c8 c9
  go_enter Tryz.func44, Tryz.ntmps44
  go_wp2_with fail
  refine (C1.out _).mono ?_; rintro e w' ⟨rfl, nq, rfl⟩
  go_upto_region 2 with fail
  go_cut [7, 8] (fun s7 s8 wx => ∃ i k : Nat, s7 = .pointer (some ⟨i, 0, none⟩) ∧ s8 = .pointer (some ⟨k, 0, none⟩) ∧ Box3 wx w.heap.size (.bool s) (.int .u64 an) (.int .u64 ad) ∧ Box3 wx (w.heap.size + 1) (.bool t) (.int .u64 bn) (.int .u64 bd) ∧ Box2 wx (w.heap.size + 1 + 1) (.int .i64 0) (.int .i64 0) ∧ Cells2 wx i (.int .u64 (Num.hi L)) (.int .u64 (Num.lo L)) ∧ Cells2 wx k (.int .u64 (Num.hi R)) (.int .u64 (Num.lo R)) ∧ Below w.heap.size w wx)
  case first =>
    go_region_held3 (fun w' => w'.cell? ⟨w.heap.size, 1, none⟩ = some (.int .u64 an) ∧ w'.cell? ⟨w.heap.size, 2, none⟩ = some (.int .u64 ad) ∧ w'.cell? ⟨w.heap.size + 1, 1, none⟩ = some (.int .u64 bn) ∧ w'.cell? ⟨w.heap.size + 1, 2, none⟩ = some (.int .u64 bd)) (simp [go_sem, World.cell?_alloc_past])
      (first
        | (go_at_call_of 68 (Value.int IntKind.u64 an); refine (C2.out _).mono ?_; rintro e w' ⟨rfl, rfl⟩)
        | (go_at_call_of 68 (Value.int IntKind.u64 bn); refine (C3.out _).mono ?_; rintro e w' ⟨rfl, rfl⟩))
    all_goals
      go_wp2_with fail
      go_meet
      refine ⟨_, _, rfl, rfl, ?_, ?_, ?_, ?_, ?_, ?_⟩
    all_goals first | (simp [Box3, go_sem]; done) | (simp [Box2, go_sem]; done) | (simp [Cells2, go_sem]; done) | (repeat' (first | (with_reducible exact Below.refl _ _) | (with_reducible assumption) | (with_reducible refine bdn ?_ _) | (with_reducible refine Below.drew ?_) | (with_reducible refine Below.alloc ?_ ?_ _) | (with_reducible refine Below.setCell ?_ ?_ _) | go_size))
  case rest =>
    obtain ⟨i, k, rfl, rfl, ⟨p1, p2, p3, p4⟩, ⟨p5, p6, p7, p8⟩, ⟨r1, r2, r3, r4, r5⟩, ⟨g1, g2, g3⟩, ⟨k1, k2, k3⟩, hb⟩ := hcut
    have HB := Lib.hid hb; clear hb
    go_wp2_with fail
    refine (C4.out _).mono ?_; rintro e w1 ⟨rfl, hb1⟩
    have a3 := bk hb1 w.heap.size 2 p3 p4
    have a7 := bk hb1 (w.heap.size + 1) 2 p7 p8
    have a4 := bs hb1 p4
    have a8 := bs hb1 p8
    obtain ⟨va, vb, vc, vd, ve⟩ := box2 hb1 (w.heap.size + 1 + 1) (a := .int .i64 0) (b := .int .i64 0) (by first | assumption | (simp [go_sem]; done) | omega | (simp; omega)) (by first | assumption | (simp [go_sem]; done) | omega | (simp; omega)) (by first | assumption | (simp [go_sem]; done) | omega | (simp; omega)) (by first | assumption | (simp [go_sem]; done) | omega | (simp; omega)) (by first | assumption | (simp [go_sem]; done) | omega | (simp; omega)) (by first | assumption | (simp [go_sem]; done) | omega | (simp; omega))
    have HB1 := Lib.hid (HB.out.trans (hb1.mono HB.out.size)); clear hb1
    clear p1 p2 p3 p4 p5 p6 p7 p8 r1 r2 r3 r4 r5 g1 g2 g3 k1 k2 k3 HB
    go_wp2_with fail
    refine (C5.out _).mono ?_; rintro e w' ⟨rfl, nq1, rfl⟩
    go_wp2_with fail
    refine (C6.out _).mono ?_; rintro e w' ⟨rfl, nq2, rfl⟩
    go_upto_region 5 with fail
    go_region_held3 (fun w' => w'.cell? ⟨w.heap.size, 2, none⟩ = some (.int .u64 ad) ∧ w'.cell? ⟨w.heap.size + 1, 2, none⟩ = some (.int .u64 bd) ∧ w'.cell? ⟨w1.heap.size, 0, none⟩ = some (.int .u64 (Num.hi T)) ∧ w'.cell? ⟨w1.heap.size, 1, none⟩ = some (.int .u64 (Num.lo T))) (simp [*, go_sem, World.cell?_alloc_past])
      (first
        | (go_at_call 68; refine (C8.out _).mono ?_; rintro e w' ⟨rfl, rfl⟩)
        | (go_at_call 71; refine (C7.out _).mono ?_; rintro e w5 ⟨rfl, hb5⟩; have e3 := bk hb5 w.heap.size 2 (v := .int .u64 ad) (by simp [*, go_sem]) (by simp; omega); have e7 := bk hb5 (w.heap.size + 1) 2 (v := .int .u64 bd) (by simp [*, go_sem]) (by simp; omega); have e1 := bk hb5 w1.heap.size 0 (v := .int .u64 (Num.hi T)) (by simp [*, go_sem]) (by simp; omega); have e2 := bk hb5 w1.heap.size 1 (v := .int .u64 (Num.lo T)) (by simp [*, go_sem]) (by simp; omega); have e4 := bs (n := w.heap.size) hb5 (by simp; omega); have e8 := bs (n := w.heap.size + 1) hb5 (by simp; omega); have e9 := bs (n := w1.heap.size) hb5 (by simp; omega); obtain ⟨xa, xb, xc, xd, xe⟩ := box2 hb5 (w.heap.size + 1 + 1) (a := .int .i64 0) (b := .int .i64 0) (by simp [*, go_sem]) (by simp [*, go_sem]) (by simp [*, go_sem]) (by simp [*, go_sem]) (by simp; omega) (by simp; omega); have hB5 := hb5.mono (B' := w.heap.size) (by simp; omega); clear hb5)
        | (go_at_call 42; refine (C9.out _).mono ?_; rintro e w6 ⟨rfl, hb6⟩; have f3 := bk hb6 w.heap.size 2 (v := .int .u64 ad) (by simp [*, go_sem]) (by simp; omega); have f7 := bk hb6 (w.heap.size + 1) 2 (v := .int .u64 bd) (by simp [*, go_sem]) (by simp; omega); have f1 := bk hb6 w1.heap.size 0 (v := .int .u64 (Num.hi T)) (by simp [*, go_sem]) (by simp; omega); have f2 := bk hb6 w1.heap.size 1 (v := .int .u64 (Num.lo T)) (by simp [*, go_sem]) (by simp; omega); obtain ⟨ya, yb, yc, yd, ye⟩ := box2 hb6 (w.heap.size + 1 + 1) (a := .int .i64 0) (b := .int .i64 0) (by simp [*, go_sem]) (by simp [*, go_sem]) (by simp [*, go_sem]) (by simp [*, go_sem]) (by simp; omega) (by simp; omega); have hB6 := hb6.mono (B' := w.heap.size) (by simp; omega); clear hb6))
    all_goals
      go_wp2
      refine bodyPost_ret (v := .tuple #[ratV rn rd, .bool rb]) (by simp [results, Tryz.results44, go_sem, ya, yb]) rfl ⟨rfl, ?_⟩
      repeat' (first | (with_reducible exact HB1.out) | (with_reducible refine Below.trans ?_ hB6) | (with_reducible refine Below.trans ?_ hB5) | (with_reducible refine bdn ?_ _) | (with_reducible refine Below.drew ?_) | (with_reducible refine Below.alloc ?_ ?_ _) | (with_reducible refine Below.setCell ?_ ?_ _) | go_size)
end Go.Proofs.YtnccllelmbcdcaaGreatDoor
