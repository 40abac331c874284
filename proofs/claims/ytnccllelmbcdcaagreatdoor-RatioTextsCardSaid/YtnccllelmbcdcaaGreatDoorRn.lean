/- The reference of layer 1: Make. Condition: the arguments are ints. -/
import Derived.Test.YtnccllelmbcdcaaGreatDoorRm
namespace Go.Proofs.YtnccllelmbcdcaaGreatDoor
open Go.RowKit

theorem small_c (n : Int) (b : Bool) (h : smB n = b) (w : World) : Calls Tryz.prog 50 #[.int .i64 n] w fun e w' => e = .returned (.bool b) ∧ w' = w := by
  rw [← h]; exact small_any n w
theorem len_short {l : List Int} (ht : Dig.Trim l) (h : Dig.val l < 18446744073709551616) : l.length ≤ 100000 := by
  by_cases h4 : 4 < l.length
  · have := long_big ht h4; omega
  · omega

set_option maxHeartbeats 1600000 in
theorem refMake_zero (n : Int) (w : World) :
    Calls Tryz.prog 23 #[.int .i64 n, .int .i64 0] w fun e w' => e = .returned (.tuple #[ratV 0 1, .bool false]) ∧ Below w.heap.size w w' := by
  go_enter Tryz.func23, Tryz.ntmps23
  go_wp2_with fail
  refine (refOf_any 0 _).mono ?_; rintro e w2 ⟨rfl, hb2⟩
  obtain ⟨sa, sb, sc, sd, se⟩ := box2 hb2 (w.heap.size) (a := .int .i64 0) (b := .int .i64 0) (by first | assumption | (simp [go_sem]; done) | omega | (simp; omega)) (by first | assumption | (simp [go_sem]; done) | omega | (simp; omega)) (by first | assumption | (simp [go_sem]; done) | omega | (simp; omega)) (by first | assumption | (simp [go_sem]; done) | omega | (simp; omega)) (by first | assumption | (simp [go_sem]; done) | omega | (simp; omega)) (by first | assumption | (simp [go_sem]; done) | omega | (simp; omega))
  have hB2 := hb2.mono (B' := w.heap.size) (by simp); clear hb2
  go_wp2
  refine bodyPost_ret (v := .tuple #[ratV 0 1, .bool false]) (by simp [results, Tryz.results23, go_sem, sa, sb]) rfl ⟨rfl, ?_⟩
  refine Below.setCell (Below.setCell (Below.trans ?_ hB2) ?_ _) ?_ _ <;> (repeat' (first | (with_reducible exact Below.refl _ _) | (with_reducible assumption) | (with_reducible refine bdn ?_ _) | (with_reducible refine Below.drew ?_) | (with_reducible refine Below.alloc ?_ ?_ _) | (with_reducible refine Below.setCell ?_ ?_ _) | go_size))

set_option maxHeartbeats 1600000 in
theorem refMake_small (n d : Int) (hz : (d == 0) = false) (hn : smB n = true) (hd : smB d = true) (w : World) :
    Calls Tryz.prog 23 #[.int .i64 n, .int .i64 d] w fun e w' => e = .returned (.tuple #[ratV (Num.lowN n d) (Num.lowD n d), .bool true]) ∧ Below w.heap.size w w' := by
  have HN := Lib.hid hn; have HD := Lib.hid hd
  have BN := Lib.hid (smB_b hn); have BD := Lib.hid (smB_b hd)
  clear hn hd
  go_enter Tryz.func23, Tryz.ntmps23
  go_wp2_with fail
  refine (small_c n true HN.out _).mono ?_; rintro e w2 ⟨rfl, rfl⟩
  go_wp2_with fail
  refine (small_c d true HD.out _).mono ?_; rintro e w3 ⟨rfl, rfl⟩
  go_wp2_with fail
  refine (quick_any n d ⟨by have := BN.out; omega, by have := BN.out; omega⟩ ⟨by have := BD.out; omega, by have := BD.out; omega⟩ (by simpa using hz) _).mono ?_; rintro e w4 ⟨rfl, hb2⟩
  obtain ⟨sa, sb, sc, sd, se⟩ := box2 hb2 w.heap.size (a := .int .i64 0) (b := .int .i64 0) (by simp [go_sem]) (by simp [go_sem]) (by simp [go_sem]) (by simp [go_sem]) (by simp) (by simp)
  have hB2 := hb2.mono (B' := w.heap.size) (by simp); clear hb2
  go_wp2
  refine bodyPost_ret (v := .tuple #[ratV (Num.lowN n d) (Num.lowD n d), .bool true]) (by simp [results, Tryz.results23, go_sem, sa, sb]) rfl ⟨rfl, ?_⟩
  refine Below.setCell (Below.setCell (Below.trans ?_ hB2) ?_ _) ?_ _ <;> (repeat' (first | (with_reducible exact Below.refl _ _) | (with_reducible assumption) | (with_reducible refine bdn ?_ _) | (with_reducible refine Below.drew ?_) | (with_reducible refine Below.alloc ?_ ?_ _) | (with_reducible refine Below.setCell ?_ ?_ _) | go_size))

set_option maxHeartbeats 4000000 in
theorem refMake_large (n d : Int) (hz : (d == 0) = false) (hn : -9223372036854775808 ≤ n) (hn2 : n ≤ 9223372036854775807) (hd : -9223372036854775808 ≤ d) (hd2 : d ≤ 9223372036854775807) (hs : (smB n && smB d) = false) (w : World) :
    Calls Tryz.prog 23 #[.int .i64 n, .int .i64 d] w fun e w' => e = .returned (.tuple #[ratV (Num.resN n d) (Num.resD n d), .bool (Num.okB n d)]) ∧ Below w.heap.size w w' := by
  have HN := Lib.hid (And.intro hn hn2); have HD := Lib.hid (And.intro hd hd2); have HS := Lib.hid hs
  clear hn hn2 hd hd2 hs
  obtain ⟨r1, h1⟩ : ∃ r, smB n = r := ⟨_, rfl⟩
  obtain ⟨r2, h2⟩ : ∃ r, smB d = r := ⟨_, rfl⟩
  have HS := HS.out; rw [h1, h2] at HS
  have G1 := Lib.hid h1; have G2 := Lib.hid h2; clear h1 h2
  have HZ := Lib.hid (show d ≠ 0 by simpa using hz)
  go_enter Tryz.func23, Tryz.ntmps23
  have key : r1 = false ∨ (r1 = true ∧ r2 = false) := by cases r1 <;> cases r2 <;> simp_all
  clear HS
  rcases key with rfl | ⟨rfl, rfl⟩
  · go_wp2_with fail
    refine (small_c n false G1.out _).mono ?_; rintro e w2 ⟨rfl, rfl⟩
    go_wp2_with fail
    refine (of_row n HN.out.1 HN.out.2 _).mono ?_; rintro e w4 ⟨vn, ln, rfl, hvn, hon, htn, hvaln, hb4⟩
    obtain ⟨saa, sab, sac, sad, sae⟩ := box2 hb4 (w.heap.size) (a := .int .i64 0) (b := .int .i64 0) (by first | assumption | (simp [go_sem]; done) | omega | (simp; omega)) (by first | assumption | (simp [go_sem]; done) | omega | (simp; omega)) (by first | assumption | (simp [go_sem]; done) | omega | (simp; omega)) (by first | assumption | (simp [go_sem]; done) | omega | (simp; omega)) (by first | assumption | (simp [go_sem]; done) | omega | (simp; omega)) (by first | assumption | (simp [go_sem]; done) | omega | (simp; omega))
    have HB4 := Lib.hid (hb4.mono (B' := w.heap.size) (by simp))
    have VN := Lib.hid (And.intro hon (And.intro hvaln (len_short htn (by rw [hvaln]; have := HN.out; omega)))); have RN := Lib.hid hvn
    clear hb4 hvn hon htn hvaln
    go_wp2_with fail
    refine (of_row d HD.out.1 HD.out.2 _).mono ?_; rintro e w5 ⟨vd, ld, rfl, hvd, hod, htd, hvald, hb5⟩
    obtain ⟨sba, sbb, sbc, sbd, sbe⟩ := box2 hb5 (w.heap.size) (a := .int .i64 0) (b := .int .i64 0) (by first | assumption | (simp [go_sem]; done) | omega | (simp; omega)) (by first | assumption | (simp [go_sem]; done) | omega | (simp; omega)) (by first | assumption | (simp [go_sem]; done) | omega | (simp; omega)) (by first | assumption | (simp [go_sem]; done) | omega | (simp; omega)) (by first | assumption | (simp [go_sem]; done) | omega | (simp; omega)) (by first | assumption | (simp [go_sem]; done) | omega | (simp; omega))
    have HB5 := Lib.hid (HB4.out.trans (hb5.mono (B' := w.heap.size) (by omega)))
    have RN5 := Lib.hid (RN.out.below hb5)
    have VD := Lib.hid (And.intro hod (And.intro hvald (len_short htd (by rw [hvald]; have := HD.out; omega)))); have RD := Lib.hid hvd
    clear hb5 hvd hod htd hvald
    go_wp2_with fail
    refine (lowest_row _ _ vn vd ln ld _ (by exact RN5.out) (by exact RD.out) VN.out.2.2 VD.out.2.2 VN.out.1 VD.out.1 (by rw [VD.out.2.1]; have := HZ.out; omega)).mono ?_; rintro e w6 ⟨he, hb6⟩
    rw [VN.out.2.1, VD.out.2.1, Num.sgn_abs, Num.sgn_abs] at he
    subst he
    obtain ⟨sca, scb, scc, scd, sce⟩ := box2 hb6 (w.heap.size) (a := .int .i64 0) (b := .int .i64 0) (by first | assumption | (simp [go_sem]; done) | omega | (simp; omega)) (by first | assumption | (simp [go_sem]; done) | omega | (simp; omega)) (by first | assumption | (simp [go_sem]; done) | omega | (simp; omega)) (by first | assumption | (simp [go_sem]; done) | omega | (simp; omega)) (by first | assumption | (simp [go_sem]; done) | omega | (simp; omega)) (by first | assumption | (simp [go_sem]; done) | omega | (simp; omega))
    have HB6 := Lib.hid (HB5.out.trans (hb6.mono (B' := w.heap.size) (by omega)))
    clear hb6
    go_wp2
    refine bodyPost_ret (v := .tuple #[ratV (Num.resN n d) (Num.resD n d), .bool (Num.okB n d)]) (by simp [results, Tryz.results23, go_sem, sca, scb]) rfl ⟨rfl, ?_⟩
    refine Below.setCell (Below.setCell (Below.trans ?_ HB6.out) ?_ _) ?_ _ <;> (repeat' (first | (with_reducible exact Below.refl _ _) | (with_reducible assumption) | (with_reducible refine bdn ?_ _) | (with_reducible refine Below.drew ?_) | (with_reducible refine Below.alloc ?_ ?_ _) | (with_reducible refine Below.setCell ?_ ?_ _) | go_size))
  · go_wp2_with fail
    refine (small_c n true G1.out _).mono ?_; rintro e w2 ⟨rfl, rfl⟩
    go_wp2_with fail
    refine (small_c d false G2.out _).mono ?_; rintro e w3 ⟨rfl, rfl⟩
    go_wp2_with fail
    refine (of_row n HN.out.1 HN.out.2 _).mono ?_; rintro e w4 ⟨vn, ln, rfl, hvn, hon, htn, hvaln, hb4⟩
    obtain ⟨saa, sab, sac, sad, sae⟩ := box2 hb4 (w.heap.size) (a := .int .i64 0) (b := .int .i64 0) (by first | assumption | (simp [go_sem]; done) | omega | (simp; omega)) (by first | assumption | (simp [go_sem]; done) | omega | (simp; omega)) (by first | assumption | (simp [go_sem]; done) | omega | (simp; omega)) (by first | assumption | (simp [go_sem]; done) | omega | (simp; omega)) (by first | assumption | (simp [go_sem]; done) | omega | (simp; omega)) (by first | assumption | (simp [go_sem]; done) | omega | (simp; omega))
    have HB4 := Lib.hid (hb4.mono (B' := w.heap.size) (by simp))
    have VN := Lib.hid (And.intro hon (And.intro hvaln (len_short htn (by rw [hvaln]; have := HN.out; omega)))); have RN := Lib.hid hvn
    clear hb4 hvn hon htn hvaln
    go_wp2_with fail
    refine (of_row d HD.out.1 HD.out.2 _).mono ?_; rintro e w5 ⟨vd, ld, rfl, hvd, hod, htd, hvald, hb5⟩
    obtain ⟨sba, sbb, sbc, sbd, sbe⟩ := box2 hb5 (w.heap.size) (a := .int .i64 0) (b := .int .i64 0) (by first | assumption | (simp [go_sem]; done) | omega | (simp; omega)) (by first | assumption | (simp [go_sem]; done) | omega | (simp; omega)) (by first | assumption | (simp [go_sem]; done) | omega | (simp; omega)) (by first | assumption | (simp [go_sem]; done) | omega | (simp; omega)) (by first | assumption | (simp [go_sem]; done) | omega | (simp; omega)) (by first | assumption | (simp [go_sem]; done) | omega | (simp; omega))
    have HB5 := Lib.hid (HB4.out.trans (hb5.mono (B' := w.heap.size) (by omega)))
    have RN5 := Lib.hid (RN.out.below hb5)
    have VD := Lib.hid (And.intro hod (And.intro hvald (len_short htd (by rw [hvald]; have := HD.out; omega)))); have RD := Lib.hid hvd
    clear hb5 hvd hod htd hvald
    go_wp2_with fail
    refine (lowest_row _ _ vn vd ln ld _ (by exact RN5.out) (by exact RD.out) VN.out.2.2 VD.out.2.2 VN.out.1 VD.out.1 (by rw [VD.out.2.1]; have := HZ.out; omega)).mono ?_; rintro e w6 ⟨he, hb6⟩
    rw [VN.out.2.1, VD.out.2.1, Num.sgn_abs, Num.sgn_abs] at he
    subst he
    obtain ⟨sca, scb, scc, scd, sce⟩ := box2 hb6 (w.heap.size) (a := .int .i64 0) (b := .int .i64 0) (by first | assumption | (simp [go_sem]; done) | omega | (simp; omega)) (by first | assumption | (simp [go_sem]; done) | omega | (simp; omega)) (by first | assumption | (simp [go_sem]; done) | omega | (simp; omega)) (by first | assumption | (simp [go_sem]; done) | omega | (simp; omega)) (by first | assumption | (simp [go_sem]; done) | omega | (simp; omega)) (by first | assumption | (simp [go_sem]; done) | omega | (simp; omega))
    have HB6 := Lib.hid (HB5.out.trans (hb6.mono (B' := w.heap.size) (by omega)))
    clear hb6
    go_wp2
    refine bodyPost_ret (v := .tuple #[ratV (Num.resN n d) (Num.resD n d), .bool (Num.okB n d)]) (by simp [results, Tryz.results23, go_sem, sca, scb]) rfl ⟨rfl, ?_⟩
    refine Below.setCell (Below.setCell (Below.trans ?_ HB6.out) ?_ _) ?_ _ <;> (repeat' (first | (with_reducible exact Below.refl _ _) | (with_reducible assumption) | (with_reducible refine bdn ?_ _) | (with_reducible refine Below.drew ?_) | (with_reducible refine Below.alloc ?_ ?_ _) | (with_reducible refine Below.setCell ?_ ?_ _) | go_size))

theorem refMake_any (n d : Int) (hn : -9223372036854775808 ≤ n) (hn2 : n ≤ 9223372036854775807) (hd : -9223372036854775808 ≤ d) (hd2 : d ≤ 9223372036854775807) (w : World) :
    Calls Tryz.prog 23 #[.int .i64 n, .int .i64 d] w fun e w' => e = .returned (.tuple #[ratV (Num.resN n d) (Num.resD n d), .bool (Num.okB n d)]) ∧ Below w.heap.size w w' := by
  by_cases hz : d = 0
  · subst hz
    have ho : Num.okB n 0 = false := by simp [Num.okB]
    unfold Num.resN Num.resD; rw [ho]
    exact refMake_zero n w
  · cases hs : smB n && smB d
    · exact refMake_large n d (by simp [hz]) hn hn2 hd hd2 hs w
    · have h1 : smB n = true := by cases h : smB n <;> simp_all
      have h2 : smB d = true := by cases h : smB d <;> simp_all
      have b1 := smB_b h1; have b2 := smB_b h2
      obtain ⟨e1, e2, e3⟩ := Num.ok_small (n := n) (d := d) hz (by omega) (by omega)
      rw [e1, e2, e3]
      exact refMake_small n d (by simp [hz]) h1 h2 w
end Go.Proofs.YtnccllelmbcdcaaGreatDoor
