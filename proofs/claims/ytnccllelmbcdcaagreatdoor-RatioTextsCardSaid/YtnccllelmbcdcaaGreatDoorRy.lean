/- The reference of layer 1: Right of large numbers; Right, both. Condition: the arguments are ints. -/
import Derived.Test.YtnccllelmbcdcaaGreatDoorRx
namespace Go.Proofs.YtnccllelmbcdcaaGreatDoor
open Go.RowKit

theorem Num.rt_res {n d : Int} (hd : 1 ≤ d) (h1 : -9223372036854775808 ≤ n) (h2 : n ≤ 9223372036854775807) (h3 : d ≤ 9223372036854775807) :
    (Num.rtB n d = true ∧ Num.okB n d = true ∧ Num.resN n d = n ∧ Num.resD n d = d) ∨ (Num.rtB n d = false ∧ Num.okB n d = false) ∨ (Num.rtB n d = false ∧ Num.okB n d = true ∧ ¬ Num.resN n d = n) ∨ (Num.rtB n d = false ∧ Num.okB n d = true ∧ Num.resN n d = n ∧ ¬ Num.resD n d = d) := by
  cases h : Num.rtB n d
  · cases ho : Num.okB n d
    · exact .inr (.inl ⟨rfl, rfl⟩)
    · by_cases e : Num.resN n d = n
      · refine .inr (.inr (.inr ⟨rfl, rfl, e, fun e2 => ?_⟩))
        have := Num.res_right n d
        rw [e, e2, h] at this; cases this
      · exact .inr (.inr (.inl ⟨rfl, rfl, e⟩))
  · have := Num.res_of h (by omega) rfl h1 h2 h3
    exact .inl ⟨rfl, this.1, this.2.1, this.2.2⟩

set_option maxHeartbeats 8000000 in
set_option maxRecDepth 100000 in
theorem refRight_large (n d : Int) (hd : ¬ d < 1) (hn1 : -9223372036854775808 ≤ n) (hn2 : n ≤ 9223372036854775807) (hd2 : d ≤ 9223372036854775807) (hs : (smB n && smB d) = false) (w : World) :
    Calls Tryz.prog 32 #[ratV n d] w fun e w' => e = .returned (.bool (Num.rtB n d)) ∧ Below w.heap.size w w' := by
  have HN := Lib.hid (And.intro hn1 hn2); have HD := Lib.hid (show 1 ≤ d ∧ d ≤ 9223372036854775807 by omega); clear hn1 hn2 hd2
  obtain ⟨q1, h1⟩ : ∃ r, smB n = r := ⟨_, rfl⟩
  obtain ⟨q2, h2⟩ : ∃ r, smB d = r := ⟨_, rfl⟩
  rw [h1, h2] at hs
  have G1 := Lib.hid h1; have G2 := Lib.hid h2; clear h1 h2
  obtain ⟨rn, hrn⟩ : ∃ q, Num.resN n d = q := ⟨_, rfl⟩
  obtain ⟨rd, hrd⟩ : ∃ q, Num.resD n d = q := ⟨_, rfl⟩
  obtain ⟨r, hr⟩ : ∃ q, Num.okB n d = q := ⟨_, rfl⟩
  have key := Num.rt_res HD.out.1 HN.out.1 HN.out.2 HD.out.2
  rw [hrn, hrd, hr] at key
  have HR := Lib.hid (And.intro hrn (And.intro hrd hr)); clear hrn hrd hr
  have KEY := Lib.hid key; clear key
  have sm : q1 = false ∨ (q1 = true ∧ q2 = false) := by cases q1 <;> cases q2 <;> simp_all
  clear hs
  rcases sm with rfl | ⟨rfl, rfl⟩
  · go_enter Tryz.func32, Tryz.ntmps32
    go_wp2_with fail
    refine (small_c n false G1.out _).mono ?_; rintro e w1 ⟨rfl, rfl⟩
    obtain ⟨W, hW⟩ : ∃ W, w.alloc (.cells #[.int .i64 n, .int .i64 d] 25) = W := ⟨_, rfl⟩
    have xx0 : W.cell? ⟨w.heap.size, 0, none⟩ = some (.int .i64 n) := by rw [← hW]; simp [go_sem]
    have xx1 : W.cell? ⟨w.heap.size, 1, none⟩ = some (.int .i64 d) := by rw [← hW]; simp [go_sem]
    have xz : w.heap.size < W.heap.size := by rw [← hW]; simp
    have D0 : Hid (Below w.heap.size w W) := Lib.hid (by rw [← hW]; (repeat' (first | (with_reducible exact Below.refl _ _) | (with_reducible assumption) | (with_reducible refine bdn ?_ _) | (with_reducible refine Below.drew ?_) | (with_reducible refine Below.alloc ?_ ?_ _) | (with_reducible refine Below.setCell ?_ ?_ _) | go_size)))
    simp only [hW]
    clear hW
    go_upto_region 5 with fail
    go_cut [3, 4] (fun s1 s2 wx => ∃ B : Nat, s1 = .pointer (some ⟨B, 0, none⟩) ∧ s2 = .bool r ∧ wx.cell? ⟨B, 0, none⟩ = some (.int .i64 rn) ∧ wx.cell? ⟨B, 1, none⟩ = some (.int .i64 rd) ∧ B < wx.heap.size ∧ Hid (Below W.heap.size W wx))
    case first =>
      have nn0 : ¬ w.heap.size = W.heap.size := by omega
      have mm0 : ¬ W.heap.size = w.heap.size := by omega
      go_region_held3 (fun w' => w'.cell? ⟨w.heap.size, 0, none⟩ = some (.int .i64 n) ∧ w'.cell? ⟨w.heap.size, 1, none⟩ = some (.int .i64 d)) (first | (simp [*, go_sem]; done) | (simp [*, go_sem, World.cell?_alloc_past]; done))
        (first
          | (go_at_call_of 53 (Value.int IntKind.i64 n); refine (of_row n HN.out.1 HN.out.2 _).mono ?_; rintro e u1 ⟨vn, ln, rfl, hvn, hon, htn, hvaln, hb⟩; have VN := Lib.hid (And.intro hon (And.intro hvaln (len_short htn (by rw [hvaln]; have := HN.out; omega)))); have RN := Lib.hid hvn; clear hvn hon htn hvaln; have yy0 := bk hb w.heap.size 0 (v := .int .i64 n) (by first | assumption | (simp [*, go_sem]; done)) (by first | omega | (simp; done) | (simp; omega)); have yy1 := bk hb w.heap.size 1 (v := .int .i64 d) (by first | assumption | (simp [*, go_sem]; done)) (by first | omega | (simp; done) | (simp; omega)); have yz := bs (n := w.heap.size) hb (by first | omega | (simp; done) | (simp; omega)); have Ku1 : Hid (Below W.heap.size W u1) := Lib.hid (Below.trans (Below.trans (Below.refl _ _) (by (repeat' (first | (with_reducible exact Below.refl _ _) | (with_reducible assumption) | (with_reducible refine bdn ?_ _) | (with_reducible refine Below.drew ?_) | (with_reducible refine Below.alloc ?_ ?_ _) | (with_reducible refine Below.setCell ?_ ?_ _) | go_size)))) (hb.mono (B' := W.heap.size) (by first | omega | (simp; done) | (simp; omega)))); have ssu1 := Ku1.out.size; have nnu1 : ¬ w.heap.size = u1.heap.size := (by omega); have mmu1 : ¬ u1.heap.size = w.heap.size := (by omega); have hcu10 := fun (i : Nat) (h : W.heap.size < _) => hb.cell (p := ⟨W.heap.size, i, none⟩) h; have hfu10 := fun (i : Nat) (h : W.heap.size < _) => hb.frozen (p := ⟨W.heap.size, i, none⟩) h; have ggu1 := hb.size; (try simp at ggu1); (try replace ggu1 := Nat.lt_of_succ_le ggu1); clear hb xx0 xx1 xz; have xx0 := yy0; have xx1 := yy1; have xz := yz; clear yy0 yy1 yz)
          | (go_at_call_of 53 (Value.int IntKind.i64 d); refine (of_row d (by have := HD.out; omega) HD.out.2 _).mono ?_; rintro e u2 ⟨vd, ld, rfl, hvd, hod, htd, hvald, hb⟩; have VD := Lib.hid (And.intro hod (And.intro hvald (len_short htd (by rw [hvald]; have := HD.out; omega)))); have RD := Lib.hid hvd; have RN2 := Lib.hid ((RN.out.below (by (repeat' (first | (with_reducible exact Below.refl _ _) | (with_reducible assumption) | (with_reducible refine bdn ?_ _) | (with_reducible refine Below.drew ?_) | (with_reducible refine Below.alloc ?_ ?_ _) | (with_reducible refine Below.setCell ?_ ?_ _) | go_size)))).below hb); clear hvd hod htd hvald; have yy0 := bk hb w.heap.size 0 (v := .int .i64 n) (by first | assumption | (simp [*, go_sem]; done)) (by first | omega | (simp; done) | (simp; omega)); have yy1 := bk hb w.heap.size 1 (v := .int .i64 d) (by first | assumption | (simp [*, go_sem]; done)) (by first | omega | (simp; done) | (simp; omega)); have yz := bs (n := w.heap.size) hb (by first | omega | (simp; done) | (simp; omega)); have Ku2 : Hid (Below W.heap.size W u2) := Lib.hid (Below.trans (Below.trans Ku1.out (by (repeat' (first | (with_reducible exact Below.refl _ _) | (with_reducible assumption) | (with_reducible refine bdn ?_ _) | (with_reducible refine Below.drew ?_) | (with_reducible refine Below.alloc ?_ ?_ _) | (with_reducible refine Below.setCell ?_ ?_ _) | go_size)))) (hb.mono (B' := W.heap.size) (by first | omega | (simp; done) | (simp; omega)))); have ssu2 := Ku2.out.size; have nnu2 : ¬ w.heap.size = u2.heap.size := (by omega); have mmu2 : ¬ u2.heap.size = w.heap.size := (by omega); have hcu20 := fun (i : Nat) (h : W.heap.size < _) => hb.cell (p := ⟨W.heap.size, i, none⟩) h; have hfu20 := fun (i : Nat) (h : W.heap.size < _) => hb.frozen (p := ⟨W.heap.size, i, none⟩) h; have hcu21 := fun (i : Nat) (h : u1.heap.size < _) => hb.cell (p := ⟨u1.heap.size, i, none⟩) h; have hfu21 := fun (i : Nat) (h : u1.heap.size < _) => hb.frozen (p := ⟨u1.heap.size, i, none⟩) h; have ggu2 := hb.size; (try simp at ggu2); (try replace ggu2 := Nat.lt_of_succ_le ggu2); (try have ltu20 := Nat.lt_of_lt_of_le ggu1 ggu2); clear hb xx0 xx1 xz; have xx0 := yy0; have xx1 := yy1; have xz := yz; clear yy0 yy1 yz)
          | (go_at_call 52; refine (lowest_row _ _ vn vd ln ld _ (RN2.out.below (by (repeat' (first | (with_reducible exact Below.refl _ _) | (with_reducible assumption) | (with_reducible refine bdn ?_ _) | (with_reducible refine Below.drew ?_) | (with_reducible refine Below.alloc ?_ ?_ _) | (with_reducible refine Below.setCell ?_ ?_ _) | go_size)))) (RD.out.below (by (repeat' (first | (with_reducible exact Below.refl _ _) | (with_reducible assumption) | (with_reducible refine bdn ?_ _) | (with_reducible refine Below.drew ?_) | (with_reducible refine Below.alloc ?_ ?_ _) | (with_reducible refine Below.setCell ?_ ?_ _) | go_size)))) VN.out.2.2 VD.out.2.2 VN.out.1 VD.out.1 (by rw [VD.out.2.1]; have := HD.out; omega)).mono ?_; rintro e u3 ⟨he, hb⟩; rw [VN.out.2.1, VD.out.2.1, Num.sgn_abs, Num.sgn_abs, HR.out.1, HR.out.2.1, HR.out.2.2] at he; subst he; have yy0 := bk hb w.heap.size 0 (v := .int .i64 n) (by first | assumption | (simp [*, go_sem]; done)) (by first | omega | (simp; done) | (simp; omega)); have yy1 := bk hb w.heap.size 1 (v := .int .i64 d) (by first | assumption | (simp [*, go_sem]; done)) (by first | omega | (simp; done) | (simp; omega)); have yz := bs (n := w.heap.size) hb (by first | omega | (simp; done) | (simp; omega)); have Ku3 : Hid (Below W.heap.size W u3) := Lib.hid (Below.trans (Below.trans Ku2.out (by (repeat' (first | (with_reducible exact Below.refl _ _) | (with_reducible assumption) | (with_reducible refine bdn ?_ _) | (with_reducible refine Below.drew ?_) | (with_reducible refine Below.alloc ?_ ?_ _) | (with_reducible refine Below.setCell ?_ ?_ _) | go_size)))) (hb.mono (B' := W.heap.size) (by first | omega | (simp; done) | (simp; omega)))); have ssu3 := Ku3.out.size; have nnu3 : ¬ w.heap.size = u3.heap.size := (by omega); have mmu3 : ¬ u3.heap.size = w.heap.size := (by omega); have hcu30 := fun (i : Nat) (h : W.heap.size < _) => hb.cell (p := ⟨W.heap.size, i, none⟩) h; have hfu30 := fun (i : Nat) (h : W.heap.size < _) => hb.frozen (p := ⟨W.heap.size, i, none⟩) h; have hcu31 := fun (i : Nat) (h : u1.heap.size < _) => hb.cell (p := ⟨u1.heap.size, i, none⟩) h; have hfu31 := fun (i : Nat) (h : u1.heap.size < _) => hb.frozen (p := ⟨u1.heap.size, i, none⟩) h; have hcu32 := fun (i : Nat) (h : u2.heap.size < _) => hb.cell (p := ⟨u2.heap.size, i, none⟩) h; have hfu32 := fun (i : Nat) (h : u2.heap.size < _) => hb.frozen (p := ⟨u2.heap.size, i, none⟩) h; have ggu3 := hb.size; (try simp at ggu3); (try replace ggu3 := Nat.lt_of_succ_le ggu3); (try have ltu30 := Nat.lt_of_lt_of_le ltu20 ggu3); (try have ltu31 := Nat.lt_of_lt_of_le ggu2 ggu3); clear hb xx0 xx1 xz; have xx0 := yy0; have xx1 := yy1; have xz := yz; clear yy0 yy1 yz))
      all_goals
        go_wp2_with fail
        go_meet
        refine ⟨_, rfl, rfl, ?_, ?_, ?_, Lib.hid ?_⟩
        all_goals first | assumption | (simp [*, go_sem]; done) | omega | (simp; done) | (simp; omega) | (repeat' (first | exact Ku3.out | (with_reducible refine bdn ?_ _) | (with_reducible refine Below.drew ?_) | (with_reducible refine Below.alloc ?_ ?_ _) | (with_reducible refine Below.setCell ?_ ?_ _) | assumption | omega | (simp; done) | (simp; omega)))
    case rest =>
      obtain ⟨B, rfl, rfl, b0, b1, b2, EB⟩ := hcut
      have y0 := bk EB.out w.heap.size 0 xx0 xz; have y1 := bk EB.out w.heap.size 1 xx1 xz
      have F := Lib.hid (D0.out.trans (EB.out.mono D0.out.size))
      clear xx0 xx1 xz EB
      rcases KEY.out with ⟨k1, k2, k3, k4⟩ | ⟨k1, k2⟩ | ⟨k1, k2, k3⟩ | ⟨k1, k2, k3, k4⟩
      · have K1 := Lib.hid k1; clear k1
        subst k2; subst k3; subst k4
        go_wp2
        go_ret
        exact ⟨by rw [K1.out]; first | rfl | simp [*], F.out⟩
      · have K1 := Lib.hid k1; clear k1
        subst k2
        go_wp2
        go_ret
        exact ⟨by rw [K1.out]; first | rfl | simp [*], F.out⟩
      · have K1 := Lib.hid k1; clear k1
        subst k2
        go_wp2
        go_ret
        exact ⟨by rw [K1.out]; first | rfl | simp [*], F.out⟩
      · have K1 := Lib.hid k1; clear k1
        subst k2
        subst k3
        go_wp2
        go_ret
        exact ⟨by rw [K1.out]; first | rfl | simp [*], F.out⟩
  · go_enter Tryz.func32, Tryz.ntmps32
    go_wp2_with fail
    refine (small_c n true G1.out _).mono ?_; rintro e w1 ⟨rfl, rfl⟩
    go_wp2_with fail
    refine (small_c d false G2.out _).mono ?_; rintro e w1 ⟨rfl, rfl⟩
    obtain ⟨W, hW⟩ : ∃ W, w.alloc (.cells #[.int .i64 n, .int .i64 d] 25) = W := ⟨_, rfl⟩
    have xx0 : W.cell? ⟨w.heap.size, 0, none⟩ = some (.int .i64 n) := by rw [← hW]; simp [go_sem]
    have xx1 : W.cell? ⟨w.heap.size, 1, none⟩ = some (.int .i64 d) := by rw [← hW]; simp [go_sem]
    have xz : w.heap.size < W.heap.size := by rw [← hW]; simp
    have D0 : Hid (Below w.heap.size w W) := Lib.hid (by rw [← hW]; (repeat' (first | (with_reducible exact Below.refl _ _) | (with_reducible assumption) | (with_reducible refine bdn ?_ _) | (with_reducible refine Below.drew ?_) | (with_reducible refine Below.alloc ?_ ?_ _) | (with_reducible refine Below.setCell ?_ ?_ _) | go_size)))
    simp only [hW]
    clear hW
    go_upto_region 5 with fail
    go_cut [3, 4] (fun s1 s2 wx => ∃ B : Nat, s1 = .pointer (some ⟨B, 0, none⟩) ∧ s2 = .bool r ∧ wx.cell? ⟨B, 0, none⟩ = some (.int .i64 rn) ∧ wx.cell? ⟨B, 1, none⟩ = some (.int .i64 rd) ∧ B < wx.heap.size ∧ Hid (Below W.heap.size W wx))
    case first =>
      have nn0 : ¬ w.heap.size = W.heap.size := by omega
      have mm0 : ¬ W.heap.size = w.heap.size := by omega
      go_region_held3 (fun w' => w'.cell? ⟨w.heap.size, 0, none⟩ = some (.int .i64 n) ∧ w'.cell? ⟨w.heap.size, 1, none⟩ = some (.int .i64 d)) (first | (simp [*, go_sem]; done) | (simp [*, go_sem, World.cell?_alloc_past]; done))
        (first
          | (go_at_call_of 53 (Value.int IntKind.i64 n); refine (of_row n HN.out.1 HN.out.2 _).mono ?_; rintro e u1 ⟨vn, ln, rfl, hvn, hon, htn, hvaln, hb⟩; have VN := Lib.hid (And.intro hon (And.intro hvaln (len_short htn (by rw [hvaln]; have := HN.out; omega)))); have RN := Lib.hid hvn; clear hvn hon htn hvaln; have yy0 := bk hb w.heap.size 0 (v := .int .i64 n) (by first | assumption | (simp [*, go_sem]; done)) (by first | omega | (simp; done) | (simp; omega)); have yy1 := bk hb w.heap.size 1 (v := .int .i64 d) (by first | assumption | (simp [*, go_sem]; done)) (by first | omega | (simp; done) | (simp; omega)); have yz := bs (n := w.heap.size) hb (by first | omega | (simp; done) | (simp; omega)); have Ku1 : Hid (Below W.heap.size W u1) := Lib.hid (Below.trans (Below.trans (Below.refl _ _) (by (repeat' (first | (with_reducible exact Below.refl _ _) | (with_reducible assumption) | (with_reducible refine bdn ?_ _) | (with_reducible refine Below.drew ?_) | (with_reducible refine Below.alloc ?_ ?_ _) | (with_reducible refine Below.setCell ?_ ?_ _) | go_size)))) (hb.mono (B' := W.heap.size) (by first | omega | (simp; done) | (simp; omega)))); have ssu1 := Ku1.out.size; have nnu1 : ¬ w.heap.size = u1.heap.size := (by omega); have mmu1 : ¬ u1.heap.size = w.heap.size := (by omega); have hcu10 := fun (i : Nat) (h : W.heap.size < _) => hb.cell (p := ⟨W.heap.size, i, none⟩) h; have hfu10 := fun (i : Nat) (h : W.heap.size < _) => hb.frozen (p := ⟨W.heap.size, i, none⟩) h; have ggu1 := hb.size; (try simp at ggu1); (try replace ggu1 := Nat.lt_of_succ_le ggu1); clear hb xx0 xx1 xz; have xx0 := yy0; have xx1 := yy1; have xz := yz; clear yy0 yy1 yz)
          | (go_at_call_of 53 (Value.int IntKind.i64 d); refine (of_row d (by have := HD.out; omega) HD.out.2 _).mono ?_; rintro e u2 ⟨vd, ld, rfl, hvd, hod, htd, hvald, hb⟩; have VD := Lib.hid (And.intro hod (And.intro hvald (len_short htd (by rw [hvald]; have := HD.out; omega)))); have RD := Lib.hid hvd; have RN2 := Lib.hid ((RN.out.below (by (repeat' (first | (with_reducible exact Below.refl _ _) | (with_reducible assumption) | (with_reducible refine bdn ?_ _) | (with_reducible refine Below.drew ?_) | (with_reducible refine Below.alloc ?_ ?_ _) | (with_reducible refine Below.setCell ?_ ?_ _) | go_size)))).below hb); clear hvd hod htd hvald; have yy0 := bk hb w.heap.size 0 (v := .int .i64 n) (by first | assumption | (simp [*, go_sem]; done)) (by first | omega | (simp; done) | (simp; omega)); have yy1 := bk hb w.heap.size 1 (v := .int .i64 d) (by first | assumption | (simp [*, go_sem]; done)) (by first | omega | (simp; done) | (simp; omega)); have yz := bs (n := w.heap.size) hb (by first | omega | (simp; done) | (simp; omega)); have Ku2 : Hid (Below W.heap.size W u2) := Lib.hid (Below.trans (Below.trans Ku1.out (by (repeat' (first | (with_reducible exact Below.refl _ _) | (with_reducible assumption) | (with_reducible refine bdn ?_ _) | (with_reducible refine Below.drew ?_) | (with_reducible refine Below.alloc ?_ ?_ _) | (with_reducible refine Below.setCell ?_ ?_ _) | go_size)))) (hb.mono (B' := W.heap.size) (by first | omega | (simp; done) | (simp; omega)))); have ssu2 := Ku2.out.size; have nnu2 : ¬ w.heap.size = u2.heap.size := (by omega); have mmu2 : ¬ u2.heap.size = w.heap.size := (by omega); have hcu20 := fun (i : Nat) (h : W.heap.size < _) => hb.cell (p := ⟨W.heap.size, i, none⟩) h; have hfu20 := fun (i : Nat) (h : W.heap.size < _) => hb.frozen (p := ⟨W.heap.size, i, none⟩) h; have hcu21 := fun (i : Nat) (h : u1.heap.size < _) => hb.cell (p := ⟨u1.heap.size, i, none⟩) h; have hfu21 := fun (i : Nat) (h : u1.heap.size < _) => hb.frozen (p := ⟨u1.heap.size, i, none⟩) h; have ggu2 := hb.size; (try simp at ggu2); (try replace ggu2 := Nat.lt_of_succ_le ggu2); (try have ltu20 := Nat.lt_of_lt_of_le ggu1 ggu2); clear hb xx0 xx1 xz; have xx0 := yy0; have xx1 := yy1; have xz := yz; clear yy0 yy1 yz)
          | (go_at_call 52; refine (lowest_row _ _ vn vd ln ld _ (RN2.out.below (by (repeat' (first | (with_reducible exact Below.refl _ _) | (with_reducible assumption) | (with_reducible refine bdn ?_ _) | (with_reducible refine Below.drew ?_) | (with_reducible refine Below.alloc ?_ ?_ _) | (with_reducible refine Below.setCell ?_ ?_ _) | go_size)))) (RD.out.below (by (repeat' (first | (with_reducible exact Below.refl _ _) | (with_reducible assumption) | (with_reducible refine bdn ?_ _) | (with_reducible refine Below.drew ?_) | (with_reducible refine Below.alloc ?_ ?_ _) | (with_reducible refine Below.setCell ?_ ?_ _) | go_size)))) VN.out.2.2 VD.out.2.2 VN.out.1 VD.out.1 (by rw [VD.out.2.1]; have := HD.out; omega)).mono ?_; rintro e u3 ⟨he, hb⟩; rw [VN.out.2.1, VD.out.2.1, Num.sgn_abs, Num.sgn_abs, HR.out.1, HR.out.2.1, HR.out.2.2] at he; subst he; have yy0 := bk hb w.heap.size 0 (v := .int .i64 n) (by first | assumption | (simp [*, go_sem]; done)) (by first | omega | (simp; done) | (simp; omega)); have yy1 := bk hb w.heap.size 1 (v := .int .i64 d) (by first | assumption | (simp [*, go_sem]; done)) (by first | omega | (simp; done) | (simp; omega)); have yz := bs (n := w.heap.size) hb (by first | omega | (simp; done) | (simp; omega)); have Ku3 : Hid (Below W.heap.size W u3) := Lib.hid (Below.trans (Below.trans Ku2.out (by (repeat' (first | (with_reducible exact Below.refl _ _) | (with_reducible assumption) | (with_reducible refine bdn ?_ _) | (with_reducible refine Below.drew ?_) | (with_reducible refine Below.alloc ?_ ?_ _) | (with_reducible refine Below.setCell ?_ ?_ _) | go_size)))) (hb.mono (B' := W.heap.size) (by first | omega | (simp; done) | (simp; omega)))); have ssu3 := Ku3.out.size; have nnu3 : ¬ w.heap.size = u3.heap.size := (by omega); have mmu3 : ¬ u3.heap.size = w.heap.size := (by omega); have hcu30 := fun (i : Nat) (h : W.heap.size < _) => hb.cell (p := ⟨W.heap.size, i, none⟩) h; have hfu30 := fun (i : Nat) (h : W.heap.size < _) => hb.frozen (p := ⟨W.heap.size, i, none⟩) h; have hcu31 := fun (i : Nat) (h : u1.heap.size < _) => hb.cell (p := ⟨u1.heap.size, i, none⟩) h; have hfu31 := fun (i : Nat) (h : u1.heap.size < _) => hb.frozen (p := ⟨u1.heap.size, i, none⟩) h; have hcu32 := fun (i : Nat) (h : u2.heap.size < _) => hb.cell (p := ⟨u2.heap.size, i, none⟩) h; have hfu32 := fun (i : Nat) (h : u2.heap.size < _) => hb.frozen (p := ⟨u2.heap.size, i, none⟩) h; have ggu3 := hb.size; (try simp at ggu3); (try replace ggu3 := Nat.lt_of_succ_le ggu3); (try have ltu30 := Nat.lt_of_lt_of_le ltu20 ggu3); (try have ltu31 := Nat.lt_of_lt_of_le ggu2 ggu3); clear hb xx0 xx1 xz; have xx0 := yy0; have xx1 := yy1; have xz := yz; clear yy0 yy1 yz))
      all_goals
        go_wp2_with fail
        go_meet
        refine ⟨_, rfl, rfl, ?_, ?_, ?_, Lib.hid ?_⟩
        all_goals first | assumption | (simp [*, go_sem]; done) | omega | (simp; done) | (simp; omega) | (repeat' (first | exact Ku3.out | (with_reducible refine bdn ?_ _) | (with_reducible refine Below.drew ?_) | (with_reducible refine Below.alloc ?_ ?_ _) | (with_reducible refine Below.setCell ?_ ?_ _) | assumption | omega | (simp; done) | (simp; omega)))
    case rest =>
      obtain ⟨B, rfl, rfl, b0, b1, b2, EB⟩ := hcut
      have y0 := bk EB.out w.heap.size 0 xx0 xz; have y1 := bk EB.out w.heap.size 1 xx1 xz
      have F := Lib.hid (D0.out.trans (EB.out.mono D0.out.size))
      clear xx0 xx1 xz EB
      rcases KEY.out with ⟨k1, k2, k3, k4⟩ | ⟨k1, k2⟩ | ⟨k1, k2, k3⟩ | ⟨k1, k2, k3, k4⟩
      · have K1 := Lib.hid k1; clear k1
        subst k2; subst k3; subst k4
        go_wp2
        go_ret
        exact ⟨by rw [K1.out]; first | rfl | simp [*], F.out⟩
      · have K1 := Lib.hid k1; clear k1
        subst k2
        go_wp2
        go_ret
        exact ⟨by rw [K1.out]; first | rfl | simp [*], F.out⟩
      · have K1 := Lib.hid k1; clear k1
        subst k2
        go_wp2
        go_ret
        exact ⟨by rw [K1.out]; first | rfl | simp [*], F.out⟩
      · have K1 := Lib.hid k1; clear k1
        subst k2
        subst k3
        go_wp2
        go_ret
        exact ⟨by rw [K1.out]; first | rfl | simp [*], F.out⟩

theorem refRight_any (n d : Int) (hn1 : -9223372036854775808 ≤ n) (hn2 : n ≤ 9223372036854775807) (hd2 : d ≤ 9223372036854775807) (w : World) :
    Calls Tryz.prog 32 #[ratV n d] w fun e w' => e = .returned (.bool (Num.rtB n d)) ∧ Below w.heap.size w w' := by
  by_cases h : d < 1
  · have e : Num.rtB n d = false := by unfold Num.rtB; rw [decide_eq_false (by omega)]; rfl
    rw [e]; exact refRight_low n d h w
  · cases hs : smB n && smB d
    · exact refRight_large n d h hn1 hn2 hd2 hs w
    · have h1 : smB n = true := by cases h : smB n <;> simp_all
      have h2 : smB d = true := by cases h : smB d <;> simp_all
      exact refRight_small n d h h1 h2 w
end Go.Proofs.YtnccllelmbcdcaaGreatDoor
