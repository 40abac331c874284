/- The reference of layer 1: Mod, Made. Condition: the arguments are ints. -/
import Derived.Test.YtnccllelmbcdcaaGreatDoorRn
namespace Go.Proofs.YtnccllelmbcdcaaGreatDoor
open Go.RowKit

theorem tmod_tmod (n m : Int) (hm : 0 < m) : (n.tmod m + m).tmod m = n % m ∧ -m < n.tmod m ∧ n.tmod m < m := by
  have h1 := Int.tmod_lt_of_pos n hm
  have h2 : -m < n.tmod m := by
    have := Int.tmod_lt_of_pos (-n) hm
    rw [Int.neg_tmod] at this; omega
  refine ⟨?_, h2, h1⟩
  rw [Int.tmod_eq_emod_of_nonneg (by omega)]
  have e : n.tmod m = n - m * n.tdiv m := by have := Int.mul_tdiv_add_tmod n m; omega
  rw [e]
  have : n - m * n.tdiv m + m = n + m * (1 - n.tdiv m) := by grind
  rw [this, Int.add_mul_emod_self_left]

theorem mod_any (n m : Int) (hm : 0 < m) (hm2 : m ≤ 1000000) (w : World) :
    Calls Tryz.prog 11 #[.int .i64 n, .int .i64 m] w fun e w' => e = .returned (.int .i64 (n % m)) ∧ w' = w := by
  obtain ⟨e, l, u⟩ := tmod_tmod n m hm
  have z0 : ¬ m = 0 := by omega
  obtain ⟨t, ht⟩ : ∃ t, n.tmod m = t := ⟨_, rfl⟩
  rw [ht] at e l u
  have b0 := Int.emod_nonneg n (b := m) z0
  have b1 := Int.emod_lt_of_pos n hm
  have z1 : IntKind.i64.wrap t = t := by rw [IntKind.wrap_i64]; omega
  have z2 : IntKind.i64.wrap (t + m) = t + m := by rw [IntKind.wrap_i64]; omega
  have z3 : IntKind.i64.wrap (n % m) = n % m := by rw [IntKind.wrap_i64]; omega
  go_enter Tryz.func11, Tryz.ntmps11
  go_wp2
  go_ret
  exact ⟨rfl, rfl⟩

theorem bnd_tmod (n m : Int) (hm : 0 < m) (hm2 : m ≤ 1000000) : -1000000 < n.tmod m ∧ n.tmod m < 1000000 := by
  obtain ⟨e, l, u⟩ := tmod_tmod n m hm; omega
theorem bnd_emod (n m : Int) (hm : 0 < m) (hm2 : m ≤ 1000000) : 0 ≤ n % m ∧ n % m < 1000000 := by
  have b0 := Int.emod_nonneg n (b := m) (by omega)
  have b1 := Int.emod_lt_of_pos n hm
  omega

/-- A right number that fits. -/
def Rt (a b : Int) : Prop := Num.rtB a b = true ∧ -9223372036854775808 ≤ a ∧ a ≤ 9223372036854775807 ∧ 1 ≤ b ∧ b ≤ 9223372036854775807
theorem Rt.res (n d : Int) : Rt (Num.resN n d) (Num.resD n d) := ⟨Num.res_right n d, (Num.res_i64 n d).1.1, (Num.res_i64 n d).1.2, (Num.res_i64 n d).2.1, (Num.res_i64 n d).2.2⟩
theorem Rt.of {n : Int} (h1 : -9223372036854775808 ≤ n) (h2 : n ≤ 9223372036854775807) : Rt n 1 := ⟨Num.rt_of n, h1, h2, by decide, by decide⟩

theorem refMake_c (n d ra rb : Int) (r : Bool) (hn : -9223372036854775808 ≤ n ∧ n ≤ 9223372036854775807) (hd : -9223372036854775808 ≤ d ∧ d ≤ 9223372036854775807) (h : Num.resN n d = ra ∧ Num.resD n d = rb ∧ Num.okB n d = r) (w : World) :
    Calls Tryz.prog 23 #[.int .i64 n, .int .i64 d] w fun e w' => e = .returned (.tuple #[ratV ra rb, .bool r]) ∧ Below w.heap.size w w' := by
  rw [← h.1, ← h.2.1, ← h.2.2]; exact refMake_any n d hn.1 hn.2 hd.1 hd.2 w

theorem box_stored {W : World} {n : Nat} {a b ra rb : Value} (h0 : W.cell? ⟨n, 0, none⟩ = some a) (h1 : W.cell? ⟨n, 1, none⟩ = some b) (hs : n < W.heap.size) (o : Obj) :
    (((W.setCell ⟨n, 0, none⟩ ra).setCell ⟨n, 1, none⟩ rb).alloc o).cell? ⟨n, 0, none⟩ = some ra ∧ (((W.setCell ⟨n, 0, none⟩ ra).setCell ⟨n, 1, none⟩ rb).alloc o).cell? ⟨n, 1, none⟩ = some rb := by
  constructor
  · rw [World.cell?_alloc_past _ _ _ (by simpa using hs)]; simp [go_sem, h0]
  · rw [World.cell?_alloc_past _ _ _ (by simpa using hs)]; simp [go_sem, h1]

set_option maxHeartbeats 8000000 in
set_option maxRecDepth 1000000 in
theorem made_any (x y z : Int) (hx : -9223372036854775808 ≤ x) (hx2 : x ≤ 9223372036854775807) (hy : -9223372036854775808 ≤ y) (hy2 : y ≤ 9223372036854775807) (w : World) :
    Calls Tryz.prog 7 #[.agg #[.int .i64 x, .int .i64 y, .int .i64 z]] w fun e w' => ∃ a b, e = .returned (ratV a b) ∧ Rt a b ∧ Below w.heap.size w w' := by
  have HX := Lib.hid (And.intro hx hx2); have HY := Lib.hid (And.intro hy hy2)
  clear hx hx2 hy hy2
  have hz : z % 6 = 0 ∨ z % 6 = 1 ∨ z % 6 = 2 ∨ z % 6 = 3 ∨ z % 6 = 4 ∨ z % 6 = 5 := by omega
  rcases hz with hz | hz | hz | hz | hz | hz
  · obtain ⟨n, hn⟩ : ∃ n, x.tmod 20 = n := ⟨_, rfl⟩
    have bn := bnd_tmod x 20 (by decide) (by decide); rw [hn] at bn
    obtain ⟨m, hm⟩ : ∃ m, y % 12 = m := ⟨_, rfl⟩
    have bm := bnd_emod y 12 (by decide) (by decide); rw [hm] at bm
    have BN : Hid (-9223372036854775808 ≤ (n : Int) ∧ (n : Int) ≤ 9223372036854775807) := Lib.hid (by omega)
    have BD : Hid (-9223372036854775808 ≤ (1 + m : Int) ∧ (1 + m : Int) ≤ 9223372036854775807) := Lib.hid (by omega)
    have z1 : IntKind.i64.wrap n = n := by rw [IntKind.wrap_i64]; omega
    have z2 : IntKind.i64.wrap (1 + m) = 1 + m := by rw [IntKind.wrap_i64]; omega
    have HZ := Lib.hid hz; clear hz
    have HB := Lib.hid bn; clear bn
    have HM := Lib.hid hm; have BM := Lib.hid bm; clear hm bm
    have t0 := bnd_tmod (n) 1000 (by decide) (by decide)
    obtain ⟨tt, ht⟩ : ∃ tt, (n : Int).tmod 1000 = tt := ⟨_, rfl⟩
    rw [ht] at t0
    have z5 : IntKind.i64.wrap tt = tt := by rw [IntKind.wrap_i64]; omega
    have T0 := Lib.hid t0; clear t0
    go_enter Tryz.func7, Tryz.ntmps7
    go_wp2_with fail
    refine (mod_any z 6 (by decide) (by decide) _).mono ?_; rintro e w1 ⟨rfl, rfl⟩
    rw [HZ.out]
    go_wp2_with fail
    refine (mod_any y 12 (by decide) (by decide) _).mono ?_; rintro e w1 ⟨rfl, rfl⟩
    rw [HM.out]
    go_wp2_with fail
    obtain ⟨r, hr⟩ : ∃ r, Num.okB (n) (1 + m) = r := ⟨_, rfl⟩
    obtain ⟨ra, hra⟩ : ∃ a, Num.resN (n) (1 + m) = a := ⟨_, rfl⟩
    obtain ⟨rb, hrb⟩ : ∃ b, Num.resD (n) (1 + m) = b := ⟨_, rfl⟩
    have RR : Hid (Rt ra rb) := Lib.hid (by rw [← hra, ← hrb]; exact Rt.res _ _)
    refine (refMake_c (n) (1 + m) ra rb r BN.out BD.out ⟨hra, hrb, hr⟩ _).mono ?_; rintro e w4 ⟨rfl, hb4⟩
    clear hr hra hrb
    obtain ⟨saa, sab, sac, sad, sae⟩ := box2 hb4 (w.heap.size + 1) (a := .int .i64 0) (b := .int .i64 0) (by first | assumption | (simp [go_sem]; done) | omega | (simp; omega)) (by first | assumption | (simp [go_sem]; done) | omega | (simp; omega)) (by first | assumption | (simp [go_sem]; done) | omega | (simp; omega)) (by first | assumption | (simp [go_sem]; done) | omega | (simp; omega)) (by first | assumption | (simp [go_sem]; done) | omega | (simp; omega)) (by first | assumption | (simp [go_sem]; done) | omega | (simp; omega))
    have HB4 : Hid (Below w.heap.size w w4) := Lib.hid (Below.trans (by (repeat' (first | (with_reducible exact Below.refl _ _) | (with_reducible assumption) | (with_reducible refine bdn ?_ _) | (with_reducible refine Below.drew ?_) | (with_reducible refine Below.alloc ?_ ?_ _) | (with_reducible refine Below.setCell ?_ ?_ _) | go_size))) (hb4.mono (B' := w.heap.size) (by simp; omega))); clear hb4
    have SA := Lib.hid (And.intro saa (And.intro sab sae))
    have SF := Lib.hid (And.intro sac sad)
    cases r
    · go_wp2_with fail
      refine (refOf_any _ _).mono ?_; rintro e w5 ⟨rfl, hb5⟩
      have hn5 : w.heap.size + 1 < (w4.alloc (.cells #[.int .i64 ra, .int .i64 rb] 25)).heap.size := by have := SA.out.2.2; simp; omega
      have sba : w5.cell? ⟨w.heap.size + 1, 0, none⟩ = some (.int .i64 0) := (hb5.cell (p := ⟨w.heap.size + 1, 0, none⟩) hn5).trans ((World.cell?_alloc_past _ _ _ SA.out.2.2).trans SA.out.1)
      have sbb : w5.cell? ⟨w.heap.size + 1, 1, none⟩ = some (.int .i64 0) := (hb5.cell (p := ⟨w.heap.size + 1, 1, none⟩) hn5).trans ((World.cell?_alloc_past _ _ _ SA.out.2.2).trans SA.out.2.1)
      have sbc : w5.frozen? ⟨w.heap.size + 1, 0, none⟩ = false := (hb5.frozen (p := ⟨w.heap.size + 1, 0, none⟩) hn5).trans ((World.frozen?_alloc_past _ _ _ SA.out.2.2).trans SF.out.1)
      have sbd : w5.frozen? ⟨w.heap.size + 1, 1, none⟩ = false := (hb5.frozen (p := ⟨w.heap.size + 1, 1, none⟩) hn5).trans ((World.frozen?_alloc_past _ _ _ SA.out.2.2).trans SF.out.2)
      have HB5 : Hid (Below w.heap.size w w5) := Lib.hid (Below.trans (HB4.out.alloc HB4.out.size _) (hb5.mono (B' := w.heap.size) (by omega))); clear hb5 hn5
      go_wp2
      refine bodyPost_ret (v := ratV tt 1) (by simp [results, Tryz.results7, go_sem, sba, sbb]) rfl ⟨tt, 1, rfl, Rt.of (by have := T0.out; omega) (by have := T0.out; omega), ?_⟩
      exact (HB5.out.setCell (p := ⟨w.heap.size + 1, 0, none⟩) (by simp) _).setCell (p := ⟨w.heap.size + 1, 1, none⟩) (by simp) _
    · go_wp2
      obtain ⟨q0, q1⟩ := box_stored (ra := .int .i64 ra) (rb := .int .i64 rb) SA.out.1 SA.out.2.1 SA.out.2.2 (.cells #[.int .i64 ra, .int .i64 rb] 25)
      refine bodyPost_ret (v := ratV ra rb) (by simp [results, Tryz.results7, go_sem, q0, q1]) rfl ⟨ra, rb, rfl, RR.out, ?_⟩
      exact ((HB4.out.setCell (p := ⟨w.heap.size + 1, 0, none⟩) (by simp) _).setCell (p := ⟨w.heap.size + 1, 1, none⟩) (by simp) _).alloc (by have := HB4.out.size; simp; omega) _
  · obtain ⟨n, hn⟩ : ∃ n, x.tmod 1000000 = n := ⟨_, rfl⟩
    have bn := bnd_tmod x 1000000 (by decide) (by decide); rw [hn] at bn
    obtain ⟨m, hm⟩ : ∃ m, y % 1000 = m := ⟨_, rfl⟩
    have bm := bnd_emod y 1000 (by decide) (by decide); rw [hm] at bm
    have BN : Hid (-9223372036854775808 ≤ (n : Int) ∧ (n : Int) ≤ 9223372036854775807) := Lib.hid (by omega)
    have BD : Hid (-9223372036854775808 ≤ (1 + m : Int) ∧ (1 + m : Int) ≤ 9223372036854775807) := Lib.hid (by omega)
    have z1 : IntKind.i64.wrap n = n := by rw [IntKind.wrap_i64]; omega
    have z2 : IntKind.i64.wrap (1 + m) = 1 + m := by rw [IntKind.wrap_i64]; omega
    have HZ := Lib.hid hz; clear hz
    have HB := Lib.hid bn; clear bn
    have HM := Lib.hid hm; have BM := Lib.hid bm; clear hm bm
    have t0 := bnd_tmod (n) 1000 (by decide) (by decide)
    obtain ⟨tt, ht⟩ : ∃ tt, (n : Int).tmod 1000 = tt := ⟨_, rfl⟩
    rw [ht] at t0
    have z5 : IntKind.i64.wrap tt = tt := by rw [IntKind.wrap_i64]; omega
    have T0 := Lib.hid t0; clear t0
    go_enter Tryz.func7, Tryz.ntmps7
    go_wp2_with fail
    refine (mod_any z 6 (by decide) (by decide) _).mono ?_; rintro e w1 ⟨rfl, rfl⟩
    rw [HZ.out]
    go_wp2_with fail
    refine (mod_any y 1000 (by decide) (by decide) _).mono ?_; rintro e w1 ⟨rfl, rfl⟩
    rw [HM.out]
    go_wp2_with fail
    obtain ⟨r, hr⟩ : ∃ r, Num.okB (n) (1 + m) = r := ⟨_, rfl⟩
    obtain ⟨ra, hra⟩ : ∃ a, Num.resN (n) (1 + m) = a := ⟨_, rfl⟩
    obtain ⟨rb, hrb⟩ : ∃ b, Num.resD (n) (1 + m) = b := ⟨_, rfl⟩
    have RR : Hid (Rt ra rb) := Lib.hid (by rw [← hra, ← hrb]; exact Rt.res _ _)
    refine (refMake_c (n) (1 + m) ra rb r BN.out BD.out ⟨hra, hrb, hr⟩ _).mono ?_; rintro e w4 ⟨rfl, hb4⟩
    clear hr hra hrb
    obtain ⟨saa, sab, sac, sad, sae⟩ := box2 hb4 (w.heap.size + 1) (a := .int .i64 0) (b := .int .i64 0) (by first | assumption | (simp [go_sem]; done) | omega | (simp; omega)) (by first | assumption | (simp [go_sem]; done) | omega | (simp; omega)) (by first | assumption | (simp [go_sem]; done) | omega | (simp; omega)) (by first | assumption | (simp [go_sem]; done) | omega | (simp; omega)) (by first | assumption | (simp [go_sem]; done) | omega | (simp; omega)) (by first | assumption | (simp [go_sem]; done) | omega | (simp; omega))
    have HB4 : Hid (Below w.heap.size w w4) := Lib.hid (Below.trans (by (repeat' (first | (with_reducible exact Below.refl _ _) | (with_reducible assumption) | (with_reducible refine bdn ?_ _) | (with_reducible refine Below.drew ?_) | (with_reducible refine Below.alloc ?_ ?_ _) | (with_reducible refine Below.setCell ?_ ?_ _) | go_size))) (hb4.mono (B' := w.heap.size) (by simp; omega))); clear hb4
    have SA := Lib.hid (And.intro saa (And.intro sab sae))
    have SF := Lib.hid (And.intro sac sad)
    cases r
    · go_wp2_with fail
      refine (refOf_any _ _).mono ?_; rintro e w5 ⟨rfl, hb5⟩
      have hn5 : w.heap.size + 1 < (w4.alloc (.cells #[.int .i64 ra, .int .i64 rb] 25)).heap.size := by have := SA.out.2.2; simp; omega
      have sba : w5.cell? ⟨w.heap.size + 1, 0, none⟩ = some (.int .i64 0) := (hb5.cell (p := ⟨w.heap.size + 1, 0, none⟩) hn5).trans ((World.cell?_alloc_past _ _ _ SA.out.2.2).trans SA.out.1)
      have sbb : w5.cell? ⟨w.heap.size + 1, 1, none⟩ = some (.int .i64 0) := (hb5.cell (p := ⟨w.heap.size + 1, 1, none⟩) hn5).trans ((World.cell?_alloc_past _ _ _ SA.out.2.2).trans SA.out.2.1)
      have sbc : w5.frozen? ⟨w.heap.size + 1, 0, none⟩ = false := (hb5.frozen (p := ⟨w.heap.size + 1, 0, none⟩) hn5).trans ((World.frozen?_alloc_past _ _ _ SA.out.2.2).trans SF.out.1)
      have sbd : w5.frozen? ⟨w.heap.size + 1, 1, none⟩ = false := (hb5.frozen (p := ⟨w.heap.size + 1, 1, none⟩) hn5).trans ((World.frozen?_alloc_past _ _ _ SA.out.2.2).trans SF.out.2)
      have HB5 : Hid (Below w.heap.size w w5) := Lib.hid (Below.trans (HB4.out.alloc HB4.out.size _) (hb5.mono (B' := w.heap.size) (by omega))); clear hb5 hn5
      go_wp2
      refine bodyPost_ret (v := ratV tt 1) (by simp [results, Tryz.results7, go_sem, sba, sbb]) rfl ⟨tt, 1, rfl, Rt.of (by have := T0.out; omega) (by have := T0.out; omega), ?_⟩
      exact (HB5.out.setCell (p := ⟨w.heap.size + 1, 0, none⟩) (by simp) _).setCell (p := ⟨w.heap.size + 1, 1, none⟩) (by simp) _
    · go_wp2
      obtain ⟨q0, q1⟩ := box_stored (ra := .int .i64 ra) (rb := .int .i64 rb) SA.out.1 SA.out.2.1 SA.out.2.2 (.cells #[.int .i64 ra, .int .i64 rb] 25)
      refine bodyPost_ret (v := ratV ra rb) (by simp [results, Tryz.results7, go_sem, q0, q1]) rfl ⟨ra, rb, rfl, RR.out, ?_⟩
      exact ((HB4.out.setCell (p := ⟨w.heap.size + 1, 0, none⟩) (by simp) _).setCell (p := ⟨w.heap.size + 1, 1, none⟩) (by simp) _).alloc (by have := HB4.out.size; simp; omega) _
  · have BN : Hid (-9223372036854775808 ≤ (x : Int) ∧ (x : Int) ≤ 9223372036854775807) := Lib.hid HX.out
    have BD : Hid (-9223372036854775808 ≤ (1 : Int) ∧ (1 : Int) ≤ 9223372036854775807) := Lib.hid (by omega)
    have HZ := Lib.hid hz; clear hz
    have t0 := bnd_tmod (x) 1000 (by decide) (by decide)
    obtain ⟨tt, ht⟩ : ∃ tt, (x : Int).tmod 1000 = tt := ⟨_, rfl⟩
    rw [ht] at t0
    have z5 : IntKind.i64.wrap tt = tt := by rw [IntKind.wrap_i64]; omega
    have T0 := Lib.hid t0; clear t0
    go_enter Tryz.func7, Tryz.ntmps7
    go_wp2_with fail
    refine (mod_any z 6 (by decide) (by decide) _).mono ?_; rintro e w1 ⟨rfl, rfl⟩
    rw [HZ.out]
    go_wp2_with fail
    obtain ⟨r, hr⟩ : ∃ r, Num.okB (x) (1) = r := ⟨_, rfl⟩
    obtain ⟨ra, hra⟩ : ∃ a, Num.resN (x) (1) = a := ⟨_, rfl⟩
    obtain ⟨rb, hrb⟩ : ∃ b, Num.resD (x) (1) = b := ⟨_, rfl⟩
    have RR : Hid (Rt ra rb) := Lib.hid (by rw [← hra, ← hrb]; exact Rt.res _ _)
    refine (refMake_c (x) (1) ra rb r BN.out BD.out ⟨hra, hrb, hr⟩ _).mono ?_; rintro e w4 ⟨rfl, hb4⟩
    clear hr hra hrb
    obtain ⟨saa, sab, sac, sad, sae⟩ := box2 hb4 (w.heap.size + 1) (a := .int .i64 0) (b := .int .i64 0) (by first | assumption | (simp [go_sem]; done) | omega | (simp; omega)) (by first | assumption | (simp [go_sem]; done) | omega | (simp; omega)) (by first | assumption | (simp [go_sem]; done) | omega | (simp; omega)) (by first | assumption | (simp [go_sem]; done) | omega | (simp; omega)) (by first | assumption | (simp [go_sem]; done) | omega | (simp; omega)) (by first | assumption | (simp [go_sem]; done) | omega | (simp; omega))
    have HB4 : Hid (Below w.heap.size w w4) := Lib.hid (Below.trans (by (repeat' (first | (with_reducible exact Below.refl _ _) | (with_reducible assumption) | (with_reducible refine bdn ?_ _) | (with_reducible refine Below.drew ?_) | (with_reducible refine Below.alloc ?_ ?_ _) | (with_reducible refine Below.setCell ?_ ?_ _) | go_size))) (hb4.mono (B' := w.heap.size) (by simp; omega))); clear hb4
    have SA := Lib.hid (And.intro saa (And.intro sab sae))
    have SF := Lib.hid (And.intro sac sad)
    cases r
    · go_wp2_with fail
      refine (refOf_any _ _).mono ?_; rintro e w5 ⟨rfl, hb5⟩
      have hn5 : w.heap.size + 1 < (w4.alloc (.cells #[.int .i64 ra, .int .i64 rb] 25)).heap.size := by have := SA.out.2.2; simp; omega
      have sba : w5.cell? ⟨w.heap.size + 1, 0, none⟩ = some (.int .i64 0) := (hb5.cell (p := ⟨w.heap.size + 1, 0, none⟩) hn5).trans ((World.cell?_alloc_past _ _ _ SA.out.2.2).trans SA.out.1)
      have sbb : w5.cell? ⟨w.heap.size + 1, 1, none⟩ = some (.int .i64 0) := (hb5.cell (p := ⟨w.heap.size + 1, 1, none⟩) hn5).trans ((World.cell?_alloc_past _ _ _ SA.out.2.2).trans SA.out.2.1)
      have sbc : w5.frozen? ⟨w.heap.size + 1, 0, none⟩ = false := (hb5.frozen (p := ⟨w.heap.size + 1, 0, none⟩) hn5).trans ((World.frozen?_alloc_past _ _ _ SA.out.2.2).trans SF.out.1)
      have sbd : w5.frozen? ⟨w.heap.size + 1, 1, none⟩ = false := (hb5.frozen (p := ⟨w.heap.size + 1, 1, none⟩) hn5).trans ((World.frozen?_alloc_past _ _ _ SA.out.2.2).trans SF.out.2)
      have HB5 : Hid (Below w.heap.size w w5) := Lib.hid (Below.trans (HB4.out.alloc HB4.out.size _) (hb5.mono (B' := w.heap.size) (by omega))); clear hb5 hn5
      go_wp2
      refine bodyPost_ret (v := ratV tt 1) (by simp [results, Tryz.results7, go_sem, sba, sbb]) rfl ⟨tt, 1, rfl, Rt.of (by have := T0.out; omega) (by have := T0.out; omega), ?_⟩
      exact (HB5.out.setCell (p := ⟨w.heap.size + 1, 0, none⟩) (by simp) _).setCell (p := ⟨w.heap.size + 1, 1, none⟩) (by simp) _
    · go_wp2
      obtain ⟨q0, q1⟩ := box_stored (ra := .int .i64 ra) (rb := .int .i64 rb) SA.out.1 SA.out.2.1 SA.out.2.2 (.cells #[.int .i64 ra, .int .i64 rb] 25)
      refine bodyPost_ret (v := ratV ra rb) (by simp [results, Tryz.results7, go_sem, q0, q1]) rfl ⟨ra, rb, rfl, RR.out, ?_⟩
      exact ((HB4.out.setCell (p := ⟨w.heap.size + 1, 0, none⟩) (by simp) _).setCell (p := ⟨w.heap.size + 1, 1, none⟩) (by simp) _).alloc (by have := HB4.out.size; simp; omega) _
  · obtain ⟨n, hn⟩ : ∃ n, x.tmod 100 = n := ⟨_, rfl⟩
    have bn := bnd_tmod x 100 (by decide) (by decide); rw [hn] at bn
    obtain ⟨m, hm⟩ : ∃ m, y % 100 = m := ⟨_, rfl⟩
    have bm := bnd_emod y 100 (by decide) (by decide); rw [hm] at bm
    have BN : Hid (-9223372036854775808 ≤ (4611686018427387904 + n : Int) ∧ (4611686018427387904 + n : Int) ≤ 9223372036854775807) := Lib.hid (by omega)
    have BD : Hid (-9223372036854775808 ≤ (1 + m : Int) ∧ (1 + m : Int) ≤ 9223372036854775807) := Lib.hid (by omega)
    have z1 : IntKind.i64.wrap n = n := by rw [IntKind.wrap_i64]; omega
    have z3 : IntKind.i64.wrap (4611686018427387904 + n) = 4611686018427387904 + n := by rw [IntKind.wrap_i64]; omega
    have z2 : IntKind.i64.wrap (1 + m) = 1 + m := by rw [IntKind.wrap_i64]; omega
    have HZ := Lib.hid hz; clear hz
    have HB := Lib.hid bn; clear bn
    have HM := Lib.hid hm; have BM := Lib.hid bm; clear hm bm
    have t0 := bnd_tmod (4611686018427387904 + n) 1000 (by decide) (by decide)
    obtain ⟨tt, ht⟩ : ∃ tt, (4611686018427387904 + n : Int).tmod 1000 = tt := ⟨_, rfl⟩
    rw [ht] at t0
    have z5 : IntKind.i64.wrap tt = tt := by rw [IntKind.wrap_i64]; omega
    have T0 := Lib.hid t0; clear t0
    go_enter Tryz.func7, Tryz.ntmps7
    go_wp2_with fail
    refine (mod_any z 6 (by decide) (by decide) _).mono ?_; rintro e w1 ⟨rfl, rfl⟩
    rw [HZ.out]
    go_wp2_with fail
    refine (mod_any y 100 (by decide) (by decide) _).mono ?_; rintro e w1 ⟨rfl, rfl⟩
    rw [HM.out]
    go_wp2_with fail
    obtain ⟨r, hr⟩ : ∃ r, Num.okB (4611686018427387904 + n) (1 + m) = r := ⟨_, rfl⟩
    obtain ⟨ra, hra⟩ : ∃ a, Num.resN (4611686018427387904 + n) (1 + m) = a := ⟨_, rfl⟩
    obtain ⟨rb, hrb⟩ : ∃ b, Num.resD (4611686018427387904 + n) (1 + m) = b := ⟨_, rfl⟩
    have RR : Hid (Rt ra rb) := Lib.hid (by rw [← hra, ← hrb]; exact Rt.res _ _)
    refine (refMake_c (4611686018427387904 + n) (1 + m) ra rb r BN.out BD.out ⟨hra, hrb, hr⟩ _).mono ?_; rintro e w4 ⟨rfl, hb4⟩
    clear hr hra hrb
    obtain ⟨saa, sab, sac, sad, sae⟩ := box2 hb4 (w.heap.size + 1) (a := .int .i64 0) (b := .int .i64 0) (by first | assumption | (simp [go_sem]; done) | omega | (simp; omega)) (by first | assumption | (simp [go_sem]; done) | omega | (simp; omega)) (by first | assumption | (simp [go_sem]; done) | omega | (simp; omega)) (by first | assumption | (simp [go_sem]; done) | omega | (simp; omega)) (by first | assumption | (simp [go_sem]; done) | omega | (simp; omega)) (by first | assumption | (simp [go_sem]; done) | omega | (simp; omega))
    have HB4 : Hid (Below w.heap.size w w4) := Lib.hid (Below.trans (by (repeat' (first | (with_reducible exact Below.refl _ _) | (with_reducible assumption) | (with_reducible refine bdn ?_ _) | (with_reducible refine Below.drew ?_) | (with_reducible refine Below.alloc ?_ ?_ _) | (with_reducible refine Below.setCell ?_ ?_ _) | go_size))) (hb4.mono (B' := w.heap.size) (by simp; omega))); clear hb4
    have SA := Lib.hid (And.intro saa (And.intro sab sae))
    have SF := Lib.hid (And.intro sac sad)
    cases r
    · go_wp2_with fail
      refine (refOf_any _ _).mono ?_; rintro e w5 ⟨rfl, hb5⟩
      have hn5 : w.heap.size + 1 < (w4.alloc (.cells #[.int .i64 ra, .int .i64 rb] 25)).heap.size := by have := SA.out.2.2; simp; omega
      have sba : w5.cell? ⟨w.heap.size + 1, 0, none⟩ = some (.int .i64 0) := (hb5.cell (p := ⟨w.heap.size + 1, 0, none⟩) hn5).trans ((World.cell?_alloc_past _ _ _ SA.out.2.2).trans SA.out.1)
      have sbb : w5.cell? ⟨w.heap.size + 1, 1, none⟩ = some (.int .i64 0) := (hb5.cell (p := ⟨w.heap.size + 1, 1, none⟩) hn5).trans ((World.cell?_alloc_past _ _ _ SA.out.2.2).trans SA.out.2.1)
      have sbc : w5.frozen? ⟨w.heap.size + 1, 0, none⟩ = false := (hb5.frozen (p := ⟨w.heap.size + 1, 0, none⟩) hn5).trans ((World.frozen?_alloc_past _ _ _ SA.out.2.2).trans SF.out.1)
      have sbd : w5.frozen? ⟨w.heap.size + 1, 1, none⟩ = false := (hb5.frozen (p := ⟨w.heap.size + 1, 1, none⟩) hn5).trans ((World.frozen?_alloc_past _ _ _ SA.out.2.2).trans SF.out.2)
      have HB5 : Hid (Below w.heap.size w w5) := Lib.hid (Below.trans (HB4.out.alloc HB4.out.size _) (hb5.mono (B' := w.heap.size) (by omega))); clear hb5 hn5
      go_wp2
      refine bodyPost_ret (v := ratV tt 1) (by simp [results, Tryz.results7, go_sem, sba, sbb]) rfl ⟨tt, 1, rfl, Rt.of (by have := T0.out; omega) (by have := T0.out; omega), ?_⟩
      exact (HB5.out.setCell (p := ⟨w.heap.size + 1, 0, none⟩) (by simp) _).setCell (p := ⟨w.heap.size + 1, 1, none⟩) (by simp) _
    · go_wp2
      obtain ⟨q0, q1⟩ := box_stored (ra := .int .i64 ra) (rb := .int .i64 rb) SA.out.1 SA.out.2.1 SA.out.2.2 (.cells #[.int .i64 ra, .int .i64 rb] 25)
      refine bodyPost_ret (v := ratV ra rb) (by simp [results, Tryz.results7, go_sem, q0, q1]) rfl ⟨ra, rb, rfl, RR.out, ?_⟩
      exact ((HB4.out.setCell (p := ⟨w.heap.size + 1, 0, none⟩) (by simp) _).setCell (p := ⟨w.heap.size + 1, 1, none⟩) (by simp) _).alloc (by have := HB4.out.size; simp; omega) _
  · obtain ⟨m, hm⟩ : ∃ m, y % 100 = m := ⟨_, rfl⟩
    have bm := bnd_emod y 100 (by decide) (by decide); rw [hm] at bm
    have BN : Hid (-9223372036854775808 ≤ (-9223372036854775808 : Int) ∧ (-9223372036854775808 : Int) ≤ 9223372036854775807) := Lib.hid (by omega)
    have BD : Hid (-9223372036854775808 ≤ (1 + 2 * m : Int) ∧ (1 + 2 * m : Int) ≤ 9223372036854775807) := Lib.hid (by omega)
    have z2 : IntKind.i64.wrap (1 + 2 * m) = 1 + 2 * m := by rw [IntKind.wrap_i64]; omega
    have z4 : IntKind.i64.wrap (2 * m) = 2 * m := by rw [IntKind.wrap_i64]; omega
    have HZ := Lib.hid hz; clear hz
    have HM := Lib.hid hm; have BM := Lib.hid bm; clear hm bm
    have t0 := bnd_tmod (-9223372036854775808) 1000 (by decide) (by decide)
    obtain ⟨tt, ht⟩ : ∃ tt, (-9223372036854775808 : Int).tmod 1000 = tt := ⟨_, rfl⟩
    rw [ht] at t0
    have z5 : IntKind.i64.wrap tt = tt := by rw [IntKind.wrap_i64]; omega
    have T0 := Lib.hid t0; clear t0
    go_enter Tryz.func7, Tryz.ntmps7
    go_wp2_with fail
    refine (mod_any z 6 (by decide) (by decide) _).mono ?_; rintro e w1 ⟨rfl, rfl⟩
    rw [HZ.out]
    go_wp2_with fail
    refine (mod_any y 100 (by decide) (by decide) _).mono ?_; rintro e w1 ⟨rfl, rfl⟩
    rw [HM.out]
    go_wp2_with fail
    obtain ⟨r, hr⟩ : ∃ r, Num.okB (-9223372036854775808) (1 + 2 * m) = r := ⟨_, rfl⟩
    obtain ⟨ra, hra⟩ : ∃ a, Num.resN (-9223372036854775808) (1 + 2 * m) = a := ⟨_, rfl⟩
    obtain ⟨rb, hrb⟩ : ∃ b, Num.resD (-9223372036854775808) (1 + 2 * m) = b := ⟨_, rfl⟩
    have RR : Hid (Rt ra rb) := Lib.hid (by rw [← hra, ← hrb]; exact Rt.res _ _)
    refine (refMake_c (-9223372036854775808) (1 + 2 * m) ra rb r BN.out BD.out ⟨hra, hrb, hr⟩ _).mono ?_; rintro e w4 ⟨rfl, hb4⟩
    clear hr hra hrb
    obtain ⟨saa, sab, sac, sad, sae⟩ := box2 hb4 (w.heap.size + 1) (a := .int .i64 0) (b := .int .i64 0) (by first | assumption | (simp [go_sem]; done) | omega | (simp; omega)) (by first | assumption | (simp [go_sem]; done) | omega | (simp; omega)) (by first | assumption | (simp [go_sem]; done) | omega | (simp; omega)) (by first | assumption | (simp [go_sem]; done) | omega | (simp; omega)) (by first | assumption | (simp [go_sem]; done) | omega | (simp; omega)) (by first | assumption | (simp [go_sem]; done) | omega | (simp; omega))
    have HB4 : Hid (Below w.heap.size w w4) := Lib.hid (Below.trans (by (repeat' (first | (with_reducible exact Below.refl _ _) | (with_reducible assumption) | (with_reducible refine bdn ?_ _) | (with_reducible refine Below.drew ?_) | (with_reducible refine Below.alloc ?_ ?_ _) | (with_reducible refine Below.setCell ?_ ?_ _) | go_size))) (hb4.mono (B' := w.heap.size) (by simp; omega))); clear hb4
    have SA := Lib.hid (And.intro saa (And.intro sab sae))
    have SF := Lib.hid (And.intro sac sad)
    cases r
    · go_wp2_with fail
      refine (refOf_any _ _).mono ?_; rintro e w5 ⟨rfl, hb5⟩
      have hn5 : w.heap.size + 1 < (w4.alloc (.cells #[.int .i64 ra, .int .i64 rb] 25)).heap.size := by have := SA.out.2.2; simp; omega
      have sba : w5.cell? ⟨w.heap.size + 1, 0, none⟩ = some (.int .i64 0) := (hb5.cell (p := ⟨w.heap.size + 1, 0, none⟩) hn5).trans ((World.cell?_alloc_past _ _ _ SA.out.2.2).trans SA.out.1)
      have sbb : w5.cell? ⟨w.heap.size + 1, 1, none⟩ = some (.int .i64 0) := (hb5.cell (p := ⟨w.heap.size + 1, 1, none⟩) hn5).trans ((World.cell?_alloc_past _ _ _ SA.out.2.2).trans SA.out.2.1)
      have sbc : w5.frozen? ⟨w.heap.size + 1, 0, none⟩ = false := (hb5.frozen (p := ⟨w.heap.size + 1, 0, none⟩) hn5).trans ((World.frozen?_alloc_past _ _ _ SA.out.2.2).trans SF.out.1)
      have sbd : w5.frozen? ⟨w.heap.size + 1, 1, none⟩ = false := (hb5.frozen (p := ⟨w.heap.size + 1, 1, none⟩) hn5).trans ((World.frozen?_alloc_past _ _ _ SA.out.2.2).trans SF.out.2)
      have HB5 : Hid (Below w.heap.size w w5) := Lib.hid (Below.trans (HB4.out.alloc HB4.out.size _) (hb5.mono (B' := w.heap.size) (by omega))); clear hb5 hn5
      go_wp2
      refine bodyPost_ret (v := ratV tt 1) (by simp [results, Tryz.results7, go_sem, sba, sbb]) rfl ⟨tt, 1, rfl, Rt.of (by have := T0.out; omega) (by have := T0.out; omega), ?_⟩
      exact (HB5.out.setCell (p := ⟨w.heap.size + 1, 0, none⟩) (by simp) _).setCell (p := ⟨w.heap.size + 1, 1, none⟩) (by simp) _
    · go_wp2
      obtain ⟨q0, q1⟩ := box_stored (ra := .int .i64 ra) (rb := .int .i64 rb) SA.out.1 SA.out.2.1 SA.out.2.2 (.cells #[.int .i64 ra, .int .i64 rb] 25)
      refine bodyPost_ret (v := ratV ra rb) (by simp [results, Tryz.results7, go_sem, q0, q1]) rfl ⟨ra, rb, rfl, RR.out, ?_⟩
      exact ((HB4.out.setCell (p := ⟨w.heap.size + 1, 0, none⟩) (by simp) _).setCell (p := ⟨w.heap.size + 1, 1, none⟩) (by simp) _).alloc (by have := HB4.out.size; simp; omega) _
  · obtain ⟨n, hn⟩ : ∃ n, x.tmod 100 = n := ⟨_, rfl⟩
    have bn := bnd_tmod x 100 (by decide) (by decide); rw [hn] at bn
    obtain ⟨m, hm⟩ : ∃ m, y % 100 = m := ⟨_, rfl⟩
    have bm := bnd_emod y 100 (by decide) (by decide); rw [hm] at bm
    have BN : Hid (-9223372036854775808 ≤ (n : Int) ∧ (n : Int) ≤ 9223372036854775807) := Lib.hid (by omega)
    have BD : Hid (-9223372036854775808 ≤ (4611686018427387904 + m : Int) ∧ (4611686018427387904 + m : Int) ≤ 9223372036854775807) := Lib.hid (by omega)
    have z1 : IntKind.i64.wrap n = n := by rw [IntKind.wrap_i64]; omega
    have z2 : IntKind.i64.wrap (4611686018427387904 + m) = 4611686018427387904 + m := by rw [IntKind.wrap_i64]; omega
    have HZ := Lib.hid hz; clear hz
    have HB := Lib.hid bn; clear bn
    have HM := Lib.hid hm; have BM := Lib.hid bm; clear hm bm
    have t0 := bnd_tmod (n) 1000 (by decide) (by decide)
    obtain ⟨tt, ht⟩ : ∃ tt, (n : Int).tmod 1000 = tt := ⟨_, rfl⟩
    rw [ht] at t0
    have z5 : IntKind.i64.wrap tt = tt := by rw [IntKind.wrap_i64]; omega
    have T0 := Lib.hid t0; clear t0
    go_enter Tryz.func7, Tryz.ntmps7
    go_wp2_with fail
    refine (mod_any z 6 (by decide) (by decide) _).mono ?_; rintro e w1 ⟨rfl, rfl⟩
    rw [HZ.out]
    go_wp2_with fail
    refine (mod_any y 100 (by decide) (by decide) _).mono ?_; rintro e w1 ⟨rfl, rfl⟩
    rw [HM.out]
    go_wp2_with fail
    obtain ⟨r, hr⟩ : ∃ r, Num.okB (n) (4611686018427387904 + m) = r := ⟨_, rfl⟩
    obtain ⟨ra, hra⟩ : ∃ a, Num.resN (n) (4611686018427387904 + m) = a := ⟨_, rfl⟩
    obtain ⟨rb, hrb⟩ : ∃ b, Num.resD (n) (4611686018427387904 + m) = b := ⟨_, rfl⟩
    have RR : Hid (Rt ra rb) := Lib.hid (by rw [← hra, ← hrb]; exact Rt.res _ _)
    refine (refMake_c (n) (4611686018427387904 + m) ra rb r BN.out BD.out ⟨hra, hrb, hr⟩ _).mono ?_; rintro e w4 ⟨rfl, hb4⟩
    clear hr hra hrb
    obtain ⟨saa, sab, sac, sad, sae⟩ := box2 hb4 (w.heap.size + 1) (a := .int .i64 0) (b := .int .i64 0) (by first | assumption | (simp [go_sem]; done) | omega | (simp; omega)) (by first | assumption | (simp [go_sem]; done) | omega | (simp; omega)) (by first | assumption | (simp [go_sem]; done) | omega | (simp; omega)) (by first | assumption | (simp [go_sem]; done) | omega | (simp; omega)) (by first | assumption | (simp [go_sem]; done) | omega | (simp; omega)) (by first | assumption | (simp [go_sem]; done) | omega | (simp; omega))
    have HB4 : Hid (Below w.heap.size w w4) := Lib.hid (Below.trans (by (repeat' (first | (with_reducible exact Below.refl _ _) | (with_reducible assumption) | (with_reducible refine bdn ?_ _) | (with_reducible refine Below.drew ?_) | (with_reducible refine Below.alloc ?_ ?_ _) | (with_reducible refine Below.setCell ?_ ?_ _) | go_size))) (hb4.mono (B' := w.heap.size) (by simp; omega))); clear hb4
    have SA := Lib.hid (And.intro saa (And.intro sab sae))
    have SF := Lib.hid (And.intro sac sad)
    cases r
    · go_wp2_with fail
      refine (refOf_any _ _).mono ?_; rintro e w5 ⟨rfl, hb5⟩
      have hn5 : w.heap.size + 1 < (w4.alloc (.cells #[.int .i64 ra, .int .i64 rb] 25)).heap.size := by have := SA.out.2.2; simp; omega
      have sba : w5.cell? ⟨w.heap.size + 1, 0, none⟩ = some (.int .i64 0) := (hb5.cell (p := ⟨w.heap.size + 1, 0, none⟩) hn5).trans ((World.cell?_alloc_past _ _ _ SA.out.2.2).trans SA.out.1)
      have sbb : w5.cell? ⟨w.heap.size + 1, 1, none⟩ = some (.int .i64 0) := (hb5.cell (p := ⟨w.heap.size + 1, 1, none⟩) hn5).trans ((World.cell?_alloc_past _ _ _ SA.out.2.2).trans SA.out.2.1)
      have sbc : w5.frozen? ⟨w.heap.size + 1, 0, none⟩ = false := (hb5.frozen (p := ⟨w.heap.size + 1, 0, none⟩) hn5).trans ((World.frozen?_alloc_past _ _ _ SA.out.2.2).trans SF.out.1)
      have sbd : w5.frozen? ⟨w.heap.size + 1, 1, none⟩ = false := (hb5.frozen (p := ⟨w.heap.size + 1, 1, none⟩) hn5).trans ((World.frozen?_alloc_past _ _ _ SA.out.2.2).trans SF.out.2)
      have HB5 : Hid (Below w.heap.size w w5) := Lib.hid (Below.trans (HB4.out.alloc HB4.out.size _) (hb5.mono (B' := w.heap.size) (by omega))); clear hb5 hn5
      go_wp2
      refine bodyPost_ret (v := ratV tt 1) (by simp [results, Tryz.results7, go_sem, sba, sbb]) rfl ⟨tt, 1, rfl, Rt.of (by have := T0.out; omega) (by have := T0.out; omega), ?_⟩
      exact (HB5.out.setCell (p := ⟨w.heap.size + 1, 0, none⟩) (by simp) _).setCell (p := ⟨w.heap.size + 1, 1, none⟩) (by simp) _
    · go_wp2
      obtain ⟨q0, q1⟩ := box_stored (ra := .int .i64 ra) (rb := .int .i64 rb) SA.out.1 SA.out.2.1 SA.out.2.2 (.cells #[.int .i64 ra, .int .i64 rb] 25)
      refine bodyPost_ret (v := ratV ra rb) (by simp [results, Tryz.results7, go_sem, q0, q1]) rfl ⟨ra, rb, rfl, RR.out, ?_⟩
      exact ((HB4.out.setCell (p := ⟨w.heap.size + 1, 0, none⟩) (by simp) _).setCell (p := ⟨w.heap.size + 1, 1, none⟩) (by simp) _).alloc (by have := HB4.out.size; simp; omega) _
end Go.Proofs.YtnccllelmbcdcaaGreatDoor
