/- The reference of layer 1: lowest. Conditions: the rows hold digits; the second number is not zero. -/
import Derived.Test.YtnccllelmbcdcaaGreatDoorRj
import Derived.Test.YtnccllelmbcdcaaGreatDoorWe
namespace Go.Proofs.YtnccllelmbcdcaaGreatDoor
open Go.RowKit

set_option maxHeartbeats 1000000 in
theorem refOf_any (n : Int) (w : World) : Calls Tryz.prog 24 #[.int .i64 n] w fun e w' => e = .returned (ratV n 1) ∧ Below w.heap.size w w' := by
  go_enter Tryz.func24, Tryz.ntmps24
  go_wp2
  refine bodyPost_ret (v := ratV n 1) (by simp [results, Tryz.results24, go_sem]) rfl ⟨rfl, by (repeat' (first | (with_reducible exact Below.refl _ _) | (with_reducible assumption) | (with_reducible refine bdn ?_ _) | (with_reducible refine Below.drew ?_) | (with_reducible refine Below.alloc ?_ ?_ _) | (with_reducible refine Below.setCell ?_ ?_ _) | go_size))⟩

theorem Num.gcdI_pos {a b : Int} (_ha : 0 ≤ a) (hb : 0 < b) : 0 < Num.gcdI a b := by
  unfold Num.gcdI
  have := Nat.gcd_pos_of_pos_right a.toNat (show 0 < b.toNat by omega)
  omega
theorem fit_c (neg : Bool) (v : Value) (x : List Int) (w : World) (V : Int) (O : Bool) (hv : RowV w v x) (ho : Dig.okL x) (h : Num.fitV neg (Dig.val x) = V ∧ Num.fitO neg (Dig.val x) = O) :
    Calls Tryz.prog 75 #[.agg #[.bool neg, v]] w fun e w' => e = .returned (.tuple #[.int .i64 V, .bool O]) ∧ Below w.heap.size w w' := by
  rw [← h.1, ← h.2]; exact fit_row neg v x w hv ho
/-- A row without a zero at its end: its length, and whether it is empty. -/
theorem RowV.shape {w : World} {v : Value} {l : List Int} (h : RowV w v l) : ∃ (q : Option Addr) (c : Nat), v = .slice q l.length c := by
  rcases h with ⟨rfl, rfl⟩ | ⟨b, cap, rfl, _⟩
  · exact ⟨_, _, rfl⟩
  · exact ⟨_, _, rfl⟩
theorem len_pos {l : List Int} (ho : Dig.okL l) (ht : Dig.Trim l) : decide ((0 : Int) < (l.length : Int)) = decide (0 < Dig.val l) := by
  have h := Dig.trim_zero ht
  have h0 := Dig.val_nonneg ho
  rw [decide_eq_decide]
  constructor
  · intro hl
    by_cases hz : Dig.val l = 0
    · have := h.2 hz; subst this; simp at hl
    · omega
  · intro hl
    have : l ≠ [] := fun e => by have := h.1 e; omega
    have := List.length_pos_iff.2 this
    omega

set_option maxHeartbeats 4000000 in
set_option maxRecDepth 1000000 in
theorem lowest_raw (sN sD r1 r2 : Bool) (V1 V2 : Int) (v u : Value) (x y : List Int) (w : World) (hv : RowV w v x) (hu : RowV w u y) (hx : x.length ≤ 100000) (hy : y.length ≤ 100000) (ox : Dig.okL x) (oy : Dig.okL y) (hp : 0 < Dig.val y)
    (h1 : Num.fitV (sN != sD && decide (0 < Dig.val x / Num.gcdI (Dig.val x) (Dig.val y))) (Dig.val x / Num.gcdI (Dig.val x) (Dig.val y)) = V1 ∧ Num.fitO (sN != sD && decide (0 < Dig.val x / Num.gcdI (Dig.val x) (Dig.val y))) (Dig.val x / Num.gcdI (Dig.val x) (Dig.val y)) = r1)
    (h2 : Num.fitV false (Dig.val y / Num.gcdI (Dig.val x) (Dig.val y)) = V2 ∧ Num.fitO false (Dig.val y / Num.gcdI (Dig.val x) (Dig.val y)) = r2) :
    Calls Tryz.prog 52 #[.agg #[.bool sN, v], .agg #[.bool sD, u]] w fun e w' => e = .returned (.tuple (if r1 && r2 then #[ratV V1 V2, .bool true] else #[ratV 0 1, .bool false])) ∧ Below w.heap.size w w' := by
  have HV := Lib.hid hv; have HU := Lib.hid hu; have HL := Lib.hid (And.intro hx hy); have HO := Lib.hid (And.intro ox oy); have HP := Lib.hid hp; have R1 := Lib.hid h1; have R2 := Lib.hid h2
  clear hv hu hx hy ox oy hp h1 h2
  go_enter Tryz.func52, Tryz.ntmps52
  have hB0 : Hid (Below w.heap.size w (((w.alloc (.cells #[.bool sN, v] 74)).alloc (.cells #[.bool sD, u] 74)).alloc (.cells #[.int .i64 0, .int .i64 0] 25))) := Lib.hid (by (repeat' (first | (with_reducible exact Below.refl _ _) | (with_reducible assumption) | (with_reducible refine bdn ?_ _) | (with_reducible refine Below.drew ?_) | (with_reducible refine Below.alloc ?_ ?_ _) | (with_reducible refine Below.setCell ?_ ?_ _) | go_size)))
  go_wp2_with fail
  refine (common_row _ _ x y _ (HV.out.below (by (repeat' (first | (with_reducible exact Below.refl _ _) | (with_reducible assumption) | (with_reducible refine bdn ?_ _) | (with_reducible refine Below.drew ?_) | (with_reducible refine Below.alloc ?_ ?_ _) | (with_reducible refine Below.setCell ?_ ?_ _) | go_size)))) (HU.out.below (by (repeat' (first | (with_reducible exact Below.refl _ _) | (with_reducible assumption) | (with_reducible refine bdn ?_ _) | (with_reducible refine Below.drew ?_) | (with_reducible refine Below.alloc ?_ ?_ _) | (with_reducible refine Below.setCell ?_ ?_ _) | go_size)))) HL.out.1 HL.out.2 HO.out.1 HO.out.2).mono ?_
  rintro e w1 ⟨vg, lg, rfl, hvg, hog, htg, hvalg, hlg, hb1⟩
  obtain ⟨naa, nab, nac, nad, nae⟩ := box2 hb1 (w.heap.size) (a := .bool sN) (b := v) (by first | assumption | (simp [go_sem]; done) | omega | (simp; omega)) (by first | assumption | (simp [go_sem]; done) | omega | (simp; omega)) (by first | assumption | (simp [go_sem]; done) | omega | (simp; omega)) (by first | assumption | (simp [go_sem]; done) | omega | (simp; omega)) (by first | assumption | (simp [go_sem]; done) | omega | (simp; omega)) (by first | assumption | (simp [go_sem]; done) | omega | (simp; omega))
  obtain ⟨daa, dab, dac, dad, dae⟩ := box2 hb1 (w.heap.size + 1) (a := .bool sD) (b := u) (by first | assumption | (simp [go_sem]; done) | omega | (simp; omega)) (by first | assumption | (simp [go_sem]; done) | omega | (simp; omega)) (by first | assumption | (simp [go_sem]; done) | omega | (simp; omega)) (by first | assumption | (simp [go_sem]; done) | omega | (simp; omega)) (by first | assumption | (simp [go_sem]; done) | omega | (simp; omega)) (by first | assumption | (simp [go_sem]; done) | omega | (simp; omega))
  obtain ⟨raa, rab, rac, rad, rae⟩ := box2 hb1 (w.heap.size + 2) (a := .int .i64 0) (b := .int .i64 0) (by first | assumption | (simp [go_sem]; done) | omega | (simp; omega)) (by first | assumption | (simp [go_sem]; done) | omega | (simp; omega)) (by first | assumption | (simp [go_sem]; done) | omega | (simp; omega)) (by first | assumption | (simp [go_sem]; done) | omega | (simp; omega)) (by first | assumption | (simp [go_sem]; done) | omega | (simp; omega)) (by first | assumption | (simp [go_sem]; done) | omega | (simp; omega))
  have HB1 := Lib.hid (hB0.out.trans (hb1.mono hB0.out.size))
  have GG := Lib.hid (And.intro hog (And.intro htg hlg)); have GV := Lib.hid hvalg; have VG := Lib.hid hvg
  clear hb1 hvg hog htg hvalg hlg
  go_wp2_with fail
  refine (trim_row _ x _ (HV.out.below (w := w) (by exact HB1.out))).mono ?_; rintro e w2 ⟨v2, rfl, hv2, ⟨nq2, rfl⟩, -⟩
  have GP : Hid (0 < Dig.val lg) := Lib.hid (by rw [GV.out]; exact Num.gcdI_pos (Dig.val_nonneg HO.out.1) HP.out)
  go_wp2_with fail
  refine (over_row _ _ _ _ _ (by exact hv2) (by exact VG.out) (by have := trimL_len x; have := HL.out.1; omega) GG.out.2.2 (Dig.okL_trimL HO.out.1) GG.out.1 GG.out.2.1 GP.out).mono ?_
  rintro e w3 ⟨vx, lx, ux, sx, rfl, hvx, hox, htx, -, hsx, -, hvalx, hltx, hb3⟩
  have hb3 : Below w1.heap.size w1 w3 := ⟨hb3.os, hb3.tape, hb3.output, hb3.size, hb3.block⟩
  obtain ⟨nba, nbb, nbc, nbd, nbe⟩ := box2 hb3 (w.heap.size) (a := .bool sN) (b := v) (by first | assumption | (simp [go_sem]; done) | omega | (simp; omega)) (by first | assumption | (simp [go_sem]; done) | omega | (simp; omega)) (by first | assumption | (simp [go_sem]; done) | omega | (simp; omega)) (by first | assumption | (simp [go_sem]; done) | omega | (simp; omega)) (by first | assumption | (simp [go_sem]; done) | omega | (simp; omega)) (by first | assumption | (simp [go_sem]; done) | omega | (simp; omega))
  obtain ⟨dba, dbb, dbc, dbd, dbe⟩ := box2 hb3 (w.heap.size + 1) (a := .bool sD) (b := u) (by first | assumption | (simp [go_sem]; done) | omega | (simp; omega)) (by first | assumption | (simp [go_sem]; done) | omega | (simp; omega)) (by first | assumption | (simp [go_sem]; done) | omega | (simp; omega)) (by first | assumption | (simp [go_sem]; done) | omega | (simp; omega)) (by first | assumption | (simp [go_sem]; done) | omega | (simp; omega)) (by first | assumption | (simp [go_sem]; done) | omega | (simp; omega))
  obtain ⟨rba, rbb, rbc, rbd, rbe⟩ := box2 hb3 (w.heap.size + 2) (a := .int .i64 0) (b := .int .i64 0) (by first | assumption | (simp [go_sem]; done) | omega | (simp; omega)) (by first | assumption | (simp [go_sem]; done) | omega | (simp; omega)) (by first | assumption | (simp [go_sem]; done) | omega | (simp; omega)) (by first | assumption | (simp [go_sem]; done) | omega | (simp; omega)) (by first | assumption | (simp [go_sem]; done) | omega | (simp; omega)) (by first | assumption | (simp [go_sem]; done) | omega | (simp; omega))
  have HB3 := Lib.hid (HB1.out.trans (hb3.mono HB1.out.size))
  have VG3 := Lib.hid (VG.out.below hb3)
  rw [Dig.val_trimL] at hvalx
  have XV : Hid (Dig.val lx = Dig.val x / Num.gcdI (Dig.val x) (Dig.val y)) := Lib.hid (by rw [← GV.out]; exact (rest_mod hvalx (Dig.val_nonneg hsx) hltx).2)
  have LX := Lib.hid (len_pos hox htx)
  have VX := Lib.hid hvx; have OX := Lib.hid hox
  clear hb3 hvx hox htx hsx hvalx hltx
  go_wp2_with fail
  refine (trim_row _ y _ (HU.out.below (w := w) (by exact HB3.out))).mono ?_; rintro e w4 ⟨v4, rfl, hv4, ⟨nq4, rfl⟩, -⟩
  go_wp2_with fail
  refine (over_row _ _ _ _ _ (by exact hv4) (by exact VG3.out) (by have := trimL_len y; have := HL.out.2; omega) GG.out.2.2 (Dig.okL_trimL HO.out.2) GG.out.1 GG.out.2.1 GP.out).mono ?_
  rintro e w5 ⟨vy, ly, uy, sy, rfl, hvy, hoy, -, -, hsy, -, hvaly, hlty, hb5⟩
  have hb5 : Below w3.heap.size w3 w5 := ⟨hb5.os, hb5.tape, hb5.output, hb5.size, hb5.block⟩
  obtain ⟨nca, ncb, ncc, ncd, nce⟩ := box2 hb5 (w.heap.size) (a := .bool sN) (b := v) (by first | assumption | (simp [go_sem]; done) | omega | (simp; omega)) (by first | assumption | (simp [go_sem]; done) | omega | (simp; omega)) (by first | assumption | (simp [go_sem]; done) | omega | (simp; omega)) (by first | assumption | (simp [go_sem]; done) | omega | (simp; omega)) (by first | assumption | (simp [go_sem]; done) | omega | (simp; omega)) (by first | assumption | (simp [go_sem]; done) | omega | (simp; omega))
  obtain ⟨dca, dcb, dcc, dcd, dce⟩ := box2 hb5 (w.heap.size + 1) (a := .bool sD) (b := u) (by first | assumption | (simp [go_sem]; done) | omega | (simp; omega)) (by first | assumption | (simp [go_sem]; done) | omega | (simp; omega)) (by first | assumption | (simp [go_sem]; done) | omega | (simp; omega)) (by first | assumption | (simp [go_sem]; done) | omega | (simp; omega)) (by first | assumption | (simp [go_sem]; done) | omega | (simp; omega)) (by first | assumption | (simp [go_sem]; done) | omega | (simp; omega))
  obtain ⟨rca, rcb, rcc, rcd, rce⟩ := box2 hb5 (w.heap.size + 2) (a := .int .i64 0) (b := .int .i64 0) (by first | assumption | (simp [go_sem]; done) | omega | (simp; omega)) (by first | assumption | (simp [go_sem]; done) | omega | (simp; omega)) (by first | assumption | (simp [go_sem]; done) | omega | (simp; omega)) (by first | assumption | (simp [go_sem]; done) | omega | (simp; omega)) (by first | assumption | (simp [go_sem]; done) | omega | (simp; omega)) (by first | assumption | (simp [go_sem]; done) | omega | (simp; omega))
  have HB5 := Lib.hid (HB3.out.trans (hb5.mono HB3.out.size))
  have VX5 := Lib.hid (VX.out.below hb5)
  rw [Dig.val_trimL] at hvaly
  have YV : Hid (Dig.val ly = Dig.val y / Num.gcdI (Dig.val x) (Dig.val y)) := Lib.hid (by rw [← GV.out]; exact (rest_mod hvaly (Dig.val_nonneg hsy) hlty).2)
  have VY := Lib.hid hvy; have OY := Lib.hid hoy
  clear hb5 hvy hoy hsy hvaly hlty
  obtain ⟨qx, cx, rfl⟩ := VX5.out.shape
  obtain ⟨pp, hpp⟩ : ∃ pp, decide ((0 : Int) < (lx.length : Int)) = pp := ⟨_, rfl⟩
  have R1' : Hid (Num.fitV ((sN != sD) && pp) (Dig.val lx) = V1 ∧ Num.fitO ((sN != sD) && pp) (Dig.val lx) = r1) := Lib.hid (by
    have e := R1.out
    rw [← XV.out, ← LX.out, hpp] at e; exact e)
  obtain ⟨qy, cy, rfl⟩ := VY.out.shape
  have key : (sN = sD ∧ ∃ p, p = false ∧ Hid (Num.fitV p (Dig.val lx) = V1 ∧ Num.fitO p (Dig.val lx) = r1)) ∨ (sD = !sN ∧ 0 < lx.length ∧ ∃ p, p = true ∧ Hid (Num.fitV p (Dig.val lx) = V1 ∧ Num.fitO p (Dig.val lx) = r1)) ∨ (sD = !sN ∧ ¬ 0 < lx.length ∧ ∃ p, p = false ∧ Hid (Num.fitV p (Dig.val lx) = V1 ∧ Num.fitO p (Dig.val lx) = r1)) := by
    have e := R1'.out
    by_cases hl : 0 < lx.length
    · have hp1 : pp = true := by rw [← hpp, decide_eq_true_iff]; omega
      rw [hp1] at e
      cases sN <;> cases sD
      · exact .inl ⟨rfl, _, rfl, e⟩
      · exact .inr (.inl ⟨rfl, hl, _, rfl, e⟩)
      · exact .inr (.inl ⟨rfl, hl, _, rfl, e⟩)
      · exact .inl ⟨rfl, _, rfl, e⟩
    · have hp1 : pp = false := by rw [← hpp, decide_eq_false_iff_not]; omega
      rw [hp1] at e
      cases sN <;> cases sD
      · exact .inl ⟨rfl, _, rfl, e⟩
      · exact .inr (.inr ⟨rfl, hl, _, rfl, e⟩)
      · exact .inr (.inr ⟨rfl, hl, _, rfl, e⟩)
      · exact .inl ⟨rfl, _, rfl, e⟩
  clear hpp R1' R1
  rcases key with ⟨rfl, p, rfl, R1'⟩ | ⟨rfl, hq, p, rfl, R1'⟩ | ⟨rfl, hq, p, rfl, R1'⟩
  all_goals
    go_wp2_with fail
    refine (fit_c _ _ lx _ V1 r1 (by exact VX5.out) OX.out (by exact R1'.out)).mono ?_
    rintro e w6 ⟨rfl, hb6⟩
    try clear hq
    obtain ⟨rda, rdb, rdc, rdd, rde⟩ := box2 hb6 (w.heap.size + 2) (a := .int .i64 0) (b := .int .i64 0) (by first | assumption | (simp [go_sem]; done) | omega | (simp; omega)) (by first | assumption | (simp [go_sem]; done) | omega | (simp; omega)) (by first | assumption | (simp [go_sem]; done) | omega | (simp; omega)) (by first | assumption | (simp [go_sem]; done) | omega | (simp; omega)) (by first | assumption | (simp [go_sem]; done) | omega | (simp; omega)) (by first | assumption | (simp [go_sem]; done) | omega | (simp; omega))
    have HB6 := Lib.hid (HB5.out.trans (hb6.mono HB5.out.size))
    have VY6 := Lib.hid (VY.out.below hb6)
    clear hb6
    go_wp2_with fail
    refine (fit_c _ _ ly _ V2 r2 (by exact VY6.out) OY.out (by have e := R2.out; rw [← YV.out] at e; exact e)).mono ?_
    rintro e w7 ⟨rfl, hb7⟩
    obtain ⟨rea, reb, rec, red, ree⟩ := box2 hb7 (w.heap.size + 2) (a := .int .i64 0) (b := .int .i64 0) (by first | assumption | (simp [go_sem]; done) | omega | (simp; omega)) (by first | assumption | (simp [go_sem]; done) | omega | (simp; omega)) (by first | assumption | (simp [go_sem]; done) | omega | (simp; omega)) (by first | assumption | (simp [go_sem]; done) | omega | (simp; omega)) (by first | assumption | (simp [go_sem]; done) | omega | (simp; omega)) (by first | assumption | (simp [go_sem]; done) | omega | (simp; omega))
    have HB7 := Lib.hid (HB6.out.trans (hb7.mono HB6.out.size))
    clear hb7
    cases r1
    · go_wp2_with fail
      refine (refOf_any 0 _).mono ?_; rintro e w8 ⟨rfl, hb8⟩
      obtain ⟨rfa, rfb, rfc, rfd, rfe⟩ := box2 hb8 (w.heap.size + 2) (a := .int .i64 0) (b := .int .i64 0) (by first | assumption | (simp [go_sem]; done) | omega | (simp; omega)) (by first | assumption | (simp [go_sem]; done) | omega | (simp; omega)) (by first | assumption | (simp [go_sem]; done) | omega | (simp; omega)) (by first | assumption | (simp [go_sem]; done) | omega | (simp; omega)) (by first | assumption | (simp [go_sem]; done) | omega | (simp; omega)) (by first | assumption | (simp [go_sem]; done) | omega | (simp; omega))
      have HB8 := Lib.hid (HB7.out.trans (hb8.mono HB7.out.size)); clear hb8
      go_wp2
      refine bodyPost_ret (v := .tuple #[ratV 0 1, .bool false]) (by simp [results, Tryz.results52, go_sem, rfa, rfb]) rfl ⟨rfl, ?_⟩
      exact (HB8.out.setCell (p := ⟨w.heap.size + 2, 0, none⟩) (by simp) _).setCell (p := ⟨w.heap.size + 2, 1, none⟩) (by simp) _
    · cases r2
      · go_wp2_with fail
        refine (refOf_any 0 _).mono ?_; rintro e w8 ⟨rfl, hb8⟩
        obtain ⟨rfa, rfb, rfc, rfd, rfe⟩ := box2 hb8 (w.heap.size + 2) (a := .int .i64 0) (b := .int .i64 0) (by first | assumption | (simp [go_sem]; done) | omega | (simp; omega)) (by first | assumption | (simp [go_sem]; done) | omega | (simp; omega)) (by first | assumption | (simp [go_sem]; done) | omega | (simp; omega)) (by first | assumption | (simp [go_sem]; done) | omega | (simp; omega)) (by first | assumption | (simp [go_sem]; done) | omega | (simp; omega)) (by first | assumption | (simp [go_sem]; done) | omega | (simp; omega))
        have HB8 := Lib.hid (HB7.out.trans (hb8.mono HB7.out.size)); clear hb8
        go_wp2
        refine bodyPost_ret (v := .tuple #[ratV 0 1, .bool false]) (by simp [results, Tryz.results52, go_sem, rfa, rfb]) rfl ⟨rfl, ?_⟩
        exact (HB8.out.setCell (p := ⟨w.heap.size + 2, 0, none⟩) (by simp) _).setCell (p := ⟨w.heap.size + 2, 1, none⟩) (by simp) _
      · go_wp2
        refine bodyPost_ret (v := .tuple #[ratV V1 V2, .bool true]) (by simp [results, Tryz.results52, go_sem, rea, reb]) rfl ⟨rfl, ?_⟩
        exact (HB7.out.setCell (p := ⟨w.heap.size + 2, 0, none⟩) (by simp) _).setCell (p := ⟨w.heap.size + 2, 1, none⟩) (by simp) _
end Go.Proofs.YtnccllelmbcdcaaGreatDoor
