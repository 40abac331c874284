/- RatioMakes: for all ints, Make and Of return what the reference returns; the result is right, and the quotient of both. Conditions: the arguments are ints; the listed variables hold the program's own text. -/
import Derived.Test.YtokmfgpbfhfafaaDoorLg
namespace Go.Proofs.YtokmfgpbfhfafaaDoor
open Go.RowKit

/-- The block A holds the three pairs. -/
def Six (w : World) (A : Nat) (n d s t : Int) : Prop := w.cell? ⟨A, 0, none⟩ = some (.int .i64 n) ∧ w.cell? ⟨A, 1, none⟩ = some (.int .i64 d) ∧ w.cell? ⟨A, 2, none⟩ = some (.int .i64 s) ∧ w.cell? ⟨A, 3, none⟩ = some (.int .i64 t) ∧ w.cell? ⟨A, 4, none⟩ = some (.int .i64 n) ∧ w.cell? ⟨A, 5, none⟩ = some (.int .i64 t) ∧ A < w.heap.size
theorem Six.below {w w' : World} {A : Nat} {n d s t : Int} (h : Six w A n d s t) (hb : Below w.heap.size w w') : Six w' A n d s t :=
  ⟨bk hb A 0 h.1 h.2.2.2.2.2.2, bk hb A 1 h.2.1 h.2.2.2.2.2.2, bk hb A 2 h.2.2.1 h.2.2.2.2.2.2, bk hb A 3 h.2.2.2.1 h.2.2.2.2.2.2, bk hb A 4 h.2.2.2.2.1 h.2.2.2.2.2.2, bk hb A 5 h.2.2.2.2.2.1 h.2.2.2.2.2.2, bs hb h.2.2.2.2.2.2⟩
theorem Held.one {w : World} {B : Nat} {a b : Int} (h0 : w.cell? ⟨B, 0, none⟩ = some (.int .i64 a)) (h1 : w.cell? ⟨B, 1, none⟩ = some (.int .i64 b)) (h2 : B < w.heap.size) : Held w [(B, a, b)] := fun x hx => by
  rw [List.mem_singleton] at hx; subst hx; exact ⟨h0, h1, h2⟩
theorem Held.more {w : World} {B : Nat} {a b : Int} {L : List (Nat × Int × Int)} (h0 : w.cell? ⟨B, 0, none⟩ = some (.int .i64 a)) (h1 : w.cell? ⟨B, 1, none⟩ = some (.int .i64 b)) (h2 : B < w.heap.size) (h : Held w L) : Held w ((B, a, b) :: L) := fun x hx => by
  rcases List.mem_cons.1 hx with rfl | hx
  · exact ⟨h0, h1, h2⟩
  · exact h x hx

theorem refMake_t (n d rn rd : Int) (r : Bool) (hn : I64 n) (hd : I64 d) (h : Num.resN n d = rn ∧ Num.resD n d = rd ∧ Num.okB n d = r) (w : World) :
    Calls Tryd.prog 10 #[.int .i64 n, .int .i64 d] w fun e w' => e = .returned (.tuple #[ratV rn rd, .bool r]) ∧ Below w.heap.size w w' := refMake_c n d rn rd r hn hd h w
theorem make_t (n d rn rd : Int) (r : Bool) (hn : I64 n) (hd : I64 d) (h : Num.resN n d = rn ∧ Num.resD n d = rd ∧ Num.okB n d = r) (w : World) :
    Calls Tryd.prog 9 #[.int .i64 n, .int .i64 d] w fun e w' => e = .returned (.tuple #[ratV rn rd, .bool r]) ∧ Below w.heap.size w w' := make_c n d rn rd r hn hd (by rw [h.1, h.2.1, h.2.2]) w
theorem quo_t (n d rn rd : Int) (r : Bool) (hn : I64 n) (hd : I64 d) (h : Num.resN n d = rn ∧ Num.resD n d = rd ∧ Num.okB n d = r) (w : World) :
    Calls Tryd.prog 11 #[ratV n 1, ratV d 1] w fun e w' => e = .returned (.tuple #[ratV rn rd, .bool r]) ∧ Below w.heap.size w w' :=
  quo_c n 1 d 1 rn rd r hn (i64_of (by decide) (by decide)) hd (i64_of (by decide) (by decide)) (op_eq (Num.rt_of n) (Num.rt_of d) (by rw [Int.mul_one, Int.one_mul]; exact h)) w
theorem rightT (n d : Int) (h : Rt n d) (w : World) :
    Calls Tryd.prog 14 #[ratV n d] w fun e w' => e = .returned (.bool true) ∧ Below w.heap.size w w' :=
  (right_yes n d h.i.1 h.i.2 h.1 w).mono fun _ _ ⟨he, nq, hw⟩ => ⟨he, by subst hw; (repeat' (first | (with_reducible exact Below.refl _ _) | (with_reducible assumption) | (with_reducible refine bdn ?_ _) | (with_reducible refine Below.drew ?_) | (with_reducible refine Below.alloc ?_ ?_ _) | (with_reducible refine Below.setCell ?_ ?_ _) | go_size))⟩

set_option maxRecDepth 100000 in
set_option maxHeartbeats 16000000 in
theorem makesLaw (n d s t : Int) (hn : I64 n) (hd : I64 d) (hs : I64 s) (ht : I64 t) (hs1 : IntKind.i64.wrap s = s) (ht1 : IntKind.i64.wrap t = t) (w : World) (hT : Tab w) (hM : Max w) :
    Calls Tryd.prog 3 #[.int .i64 n, .int .i64 d, .agg #[.int .i16 s, .int .i16 t]] w fun e w' => e = .returned (.bool true) ∧ Below w.heap.size w w' := by
  have HT := Lib.hid hT; have HM := Lib.hid hM; have HI := Lib.hid (And.intro hn (And.intro hd (And.intro hs ht))); clear hT hM hn hd hs ht
  have HW := Lib.hid (And.intro hs1 ht1); clear hs1 ht1
  go_enter Tryd.func3, Tryd.ntmps3
  go_wp2_with fail
  refine (sanity_any _ (HT.out.below (by (repeat' (first | (with_reducible exact Below.refl _ _) | (with_reducible assumption) | (with_reducible refine bdn ?_ _) | (with_reducible refine Below.drew ?_) | (with_reducible refine Below.alloc ?_ ?_ _) | (with_reducible refine Below.setCell ?_ ?_ _) | go_size)))) (HM.out.below (by (repeat' (first | (with_reducible exact Below.refl _ _) | (with_reducible assumption) | (with_reducible refine bdn ?_ _) | (with_reducible refine Below.drew ?_) | (with_reducible refine Below.alloc ?_ ?_ _) | (with_reducible refine Below.setCell ?_ ?_ _) | go_size))))).mono ?_; rintro e w1 ⟨rfl, hb⟩
  have p0 := bk hb w.heap.size 0 (v := .int .i16 s) (by simp [go_sem]) (by simp)
  have p1 := bk hb w.heap.size 1 (v := .int .i16 t) (by simp [go_sem]) (by simp)
  have D1 : Hid (Below w.heap.size w w1) := Lib.hid (Below.trans (by (repeat' (first | (with_reducible exact Below.refl _ _) | (with_reducible assumption) | (with_reducible refine bdn ?_ _) | (with_reducible refine Below.drew ?_) | (with_reducible refine Below.alloc ?_ ?_ _) | (with_reducible refine Below.setCell ?_ ?_ _) | go_size))) (hb.mono (B' := w.heap.size) (by simp)))
  clear hb
  have zs := HW.out.1; have zt := HW.out.2
  go_wp2_with fail
  have S1 := Lib.hid (show Six (w1.alloc (.cells #[.int .i64 n, .int .i64 d, .int .i64 s, .int .i64 t, .int .i64 n, .int .i64 t] 26)) w1.heap.size n d s t from ⟨by simp [go_sem], by simp [go_sem], by simp [go_sem], by simp [go_sem], by simp [go_sem], by simp [go_sem], by simp⟩)
  have E1 := Lib.hid (Below.alloc D1.out (Below.size D1.out) (.cells #[.int .i64 n, .int .i64 d, .int .i64 s, .int .i64 t, .int .i64 n, .int .i64 t] 26))
  clear p0 p1 zs zt
  go_loopw [9] (fun ix wr => ∃ k : Nat, k ≤ 3 ∧ ix = .int .i64 k ∧ Hid (Six wr w1.heap.size n d s t) ∧ Hid (Below w.heap.size w wr)) (fun ix _ => 3 - (intOf ix).toNat)
  case atStart => exact ⟨0, by decide, rfl, S1, E1⟩
  case round =>
    clear S1 E1
    obtain ⟨k, hk, rfl, S2, E2⟩ := hrel
    have hk4 : k = 0 ∨ k = 1 ∨ k = 2 ∨ k = 3 := by omega
    rcases hk4 with rfl | rfl | rfl | rfl
    · skip
      obtain ⟨rn, hrn⟩ : ∃ a, Num.resN n d = a := ⟨_, rfl⟩
      obtain ⟨rd, hrd⟩ : ∃ a, Num.resD n d = a := ⟨_, rfl⟩
      obtain ⟨r, hr⟩ : ∃ a, Num.okB n d = a := ⟨_, rfl⟩
      have HR := Lib.hid (And.intro hrn (And.intro hrd hr)); clear hrn hrd hr
      have RR := Lib.hid (show Rt rn rd by rw [← HR.out.1, ← HR.out.2.1]; exact Rt.res _ _)
      have CI := Lib.hid (show (0 : Int) ≤ ((0 : Nat) : Int) ∧ ((0 : Nat) : Int) < 3 by omega)
      have xx0 := S2.out.1
      have xx1 := S2.out.2.1
      have xz := S2.out.2.2.2.2.2.2
      go_upto_region 6 with fail
      go_cut [10, 11] (fun s1 s2 wx => ∃ B : Nat, s1 = .pointer (some ⟨B, 0, none⟩) ∧ s2 = .bool r ∧ wx.cell? ⟨B, 0, none⟩ = some (.int .i64 rn) ∧ wx.cell? ⟨B, 1, none⟩ = some (.int .i64 rd) ∧ B < wx.heap.size ∧ Hid (Below wr.heap.size wr wx))
      case first =>
        have nn0 : ¬ w1.heap.size = wr.heap.size := by omega
        have mm0 : ¬ wr.heap.size = w1.heap.size := by omega
        go_region_held3 (fun w' => w'.cell? ⟨w1.heap.size, 0, none⟩ = some (.int .i64 n) ∧ w'.cell? ⟨w1.heap.size, 1, none⟩ = some (.int .i64 d)) (first | (simp [*, go_sem]; done) | (simp [*, go_sem, World.cell?_alloc_past]; done))
          (first
            | (go_at_call 9; refine (make_t n d rn rd r HI.out.1 HI.out.2.1 HR.out _).mono ?_; rintro e u1 ⟨rfl, hb⟩; have yy0 := bk hb w1.heap.size 0 (v := .int .i64 n) (by first | assumption | (simp [*, go_sem]; done)) (by first | omega | (simp; done) | (simp; omega)); have yy1 := bk hb w1.heap.size 1 (v := .int .i64 d) (by first | assumption | (simp [*, go_sem]; done)) (by first | omega | (simp; done) | (simp; omega)); have yz := bs (n := w1.heap.size) hb (by first | omega | (simp; done) | (simp; omega)); have Ku1 : Hid (Below wr.heap.size wr u1) := Lib.hid (Below.trans (Below.trans (Below.refl _ _) (by (repeat' (first | (with_reducible exact Below.refl _ _) | (with_reducible assumption) | (with_reducible refine bdn ?_ _) | (with_reducible refine Below.drew ?_) | (with_reducible refine Below.alloc ?_ ?_ _) | (with_reducible refine Below.setCell ?_ ?_ _) | go_size)))) (hb.mono (B' := wr.heap.size) (by first | omega | (simp; done) | (simp; omega)))); have ssu1 := Ku1.out.size; have nnu1 : ¬ w1.heap.size = u1.heap.size := (by omega); have mmu1 : ¬ u1.heap.size = w1.heap.size := (by omega); have hcu10 := fun (i : Nat) (h : wr.heap.size < _) => hb.cell (p := ⟨wr.heap.size, i, none⟩) h; have hfu10 := fun (i : Nat) (h : wr.heap.size < _) => hb.frozen (p := ⟨wr.heap.size, i, none⟩) h; have ggu1 := hb.size; (try simp at ggu1); (try replace ggu1 := Nat.lt_of_succ_le ggu1); clear hb xx0 xx1 xz; have xx0 := yy0; have xx1 := yy1; have xz := yz; clear yy0 yy1 yz))
        all_goals
          go_wp2_with fail
          go_meet
          refine ⟨_, rfl, rfl, ?_, ?_, ?_, Lib.hid ?_⟩
          all_goals first | assumption | (simp [*, go_sem]; done) | omega | (simp; done) | (simp; omega) | (repeat' (first | exact Ku1.out | (with_reducible refine bdn ?_ _) | (with_reducible refine Below.drew ?_) | (with_reducible refine Below.alloc ?_ ?_ _) | (with_reducible refine Below.setCell ?_ ?_ _) | assumption | omega | (simp; done) | (simp; omega)))
      case rest =>
        obtain ⟨wa, hwa⟩ : ∃ x, x = wc := ⟨_, rfl⟩; subst hwa
        obtain ⟨BA, rfl, rfl, ba0, ba1, ba2, EA⟩ := hcut
        clear xx0 xx1 xz
        have SA := Lib.hid (S2.out.below EA.out); have FA := Lib.hid (E2.out.trans (EA.out.mono E2.out.size)); have LA := Lib.hid (Held.one ba0 ba1 ba2)
        clear ba0 ba1 ba2 EA
        have xx0 := SA.out.1
        have xx1 := SA.out.2.1
        have xz := SA.out.2.2.2.2.2.2
        go_upto_region 7 with fail
        go_cut [12, 13] (fun s1 s2 wx => ∃ B : Nat, s1 = .pointer (some ⟨B, 0, none⟩) ∧ s2 = .bool r ∧ wx.cell? ⟨B, 0, none⟩ = some (.int .i64 rn) ∧ wx.cell? ⟨B, 1, none⟩ = some (.int .i64 rd) ∧ B < wx.heap.size ∧ Hid (Below wa.heap.size wa wx))
        case first =>
          have nn0 : ¬ w1.heap.size = wa.heap.size := by omega
          have mm0 : ¬ wa.heap.size = w1.heap.size := by omega
          go_region_held3 (fun w' => w'.cell? ⟨w1.heap.size, 0, none⟩ = some (.int .i64 n) ∧ w'.cell? ⟨w1.heap.size, 1, none⟩ = some (.int .i64 d)) (first | (simp [*, go_sem]; done) | (simp [*, go_sem, World.cell?_alloc_past]; done))
            (first
              | (go_at_call 10; refine (refMake_t n d rn rd r HI.out.1 HI.out.2.1 HR.out _).mono ?_; rintro e u2 ⟨rfl, hb⟩; have yy0 := bk hb w1.heap.size 0 (v := .int .i64 n) (by first | assumption | (simp [*, go_sem]; done)) (by first | omega | (simp; done) | (simp; omega)); have yy1 := bk hb w1.heap.size 1 (v := .int .i64 d) (by first | assumption | (simp [*, go_sem]; done)) (by first | omega | (simp; done) | (simp; omega)); have yz := bs (n := w1.heap.size) hb (by first | omega | (simp; done) | (simp; omega)); have Ku2 : Hid (Below wa.heap.size wa u2) := Lib.hid (Below.trans (Below.trans (Below.refl _ _) (by (repeat' (first | (with_reducible exact Below.refl _ _) | (with_reducible assumption) | (with_reducible refine bdn ?_ _) | (with_reducible refine Below.drew ?_) | (with_reducible refine Below.alloc ?_ ?_ _) | (with_reducible refine Below.setCell ?_ ?_ _) | go_size)))) (hb.mono (B' := wa.heap.size) (by first | omega | (simp; done) | (simp; omega)))); have ssu2 := Ku2.out.size; have nnu2 : ¬ w1.heap.size = u2.heap.size := (by omega); have mmu2 : ¬ u2.heap.size = w1.heap.size := (by omega); have hcu20 := fun (i : Nat) (h : wa.heap.size < _) => hb.cell (p := ⟨wa.heap.size, i, none⟩) h; have hfu20 := fun (i : Nat) (h : wa.heap.size < _) => hb.frozen (p := ⟨wa.heap.size, i, none⟩) h; have ggu2 := hb.size; (try simp at ggu2); (try replace ggu2 := Nat.lt_of_succ_le ggu2); clear hb xx0 xx1 xz; have xx0 := yy0; have xx1 := yy1; have xz := yz; clear yy0 yy1 yz))
          all_goals
            go_wp2_with fail
            go_meet
            refine ⟨_, rfl, rfl, ?_, ?_, ?_, Lib.hid ?_⟩
            all_goals first | assumption | (simp [*, go_sem]; done) | omega | (simp; done) | (simp; omega) | (repeat' (first | exact Ku2.out | (with_reducible refine bdn ?_ _) | (with_reducible refine Below.drew ?_) | (with_reducible refine Below.alloc ?_ ?_ _) | (with_reducible refine Below.setCell ?_ ?_ _) | assumption | omega | (simp; done) | (simp; omega)))
        case rest =>
          obtain ⟨wb, hwa⟩ : ∃ x, x = wc := ⟨_, rfl⟩; subst hwa
          obtain ⟨BB, rfl, rfl, ba0, ba1, ba2, EB⟩ := hcut
          clear xx0 xx1 xz
          have SB := Lib.hid (SA.out.below EB.out); have FB := Lib.hid (FA.out.trans (EB.out.mono FA.out.size)); have LB := Lib.hid (Held.more ba0 ba1 ba2 (LA.out.below EB.out))
          clear ba0 ba1 ba2 EB
          have xx0 := SB.out.1
          have xx1 := SB.out.2.1
          have xz := SB.out.2.2.2.2.2.2
          go_upto_region 8 with fail
          go_cut [14, 15] (fun s1 s2 wx => ∃ B : Nat, s1 = .pointer (some ⟨B, 0, none⟩) ∧ s2 = .bool r ∧ wx.cell? ⟨B, 0, none⟩ = some (.int .i64 rn) ∧ wx.cell? ⟨B, 1, none⟩ = some (.int .i64 rd) ∧ B < wx.heap.size ∧ Hid (Below wb.heap.size wb wx))
          case first =>
            have nn0 : ¬ w1.heap.size = wb.heap.size := by omega
            have mm0 : ¬ wb.heap.size = w1.heap.size := by omega
            go_region_held3 (fun w' => w'.cell? ⟨w1.heap.size, 0, none⟩ = some (.int .i64 n) ∧ w'.cell? ⟨w1.heap.size, 1, none⟩ = some (.int .i64 d)) (first | (simp [*, go_sem]; done) | (simp [*, go_sem, World.cell?_alloc_past]; done))
              (first
                | (go_at_call_of 12 (Value.int IntKind.i64 n); refine (of_any n _).mono ?_; rintro e u3 ⟨rfl, hb⟩; have yy0 := bk hb w1.heap.size 0 (v := .int .i64 n) (by first | assumption | (simp [*, go_sem]; done)) (by first | omega | (simp; done) | (simp; omega)); have yy1 := bk hb w1.heap.size 1 (v := .int .i64 d) (by first | assumption | (simp [*, go_sem]; done)) (by first | omega | (simp; done) | (simp; omega)); have yz := bs (n := w1.heap.size) hb (by first | omega | (simp; done) | (simp; omega)); have Ku3 : Hid (Below wb.heap.size wb u3) := Lib.hid (Below.trans (Below.trans (Below.refl _ _) (by (repeat' (first | (with_reducible exact Below.refl _ _) | (with_reducible assumption) | (with_reducible refine bdn ?_ _) | (with_reducible refine Below.drew ?_) | (with_reducible refine Below.alloc ?_ ?_ _) | (with_reducible refine Below.setCell ?_ ?_ _) | go_size)))) (hb.mono (B' := wb.heap.size) (by first | omega | (simp; done) | (simp; omega)))); have ssu3 := Ku3.out.size; have nnu3 : ¬ w1.heap.size = u3.heap.size := (by omega); have mmu3 : ¬ u3.heap.size = w1.heap.size := (by omega); have hcu30 := fun (i : Nat) (h : wb.heap.size < _) => hb.cell (p := ⟨wb.heap.size, i, none⟩) h; have hfu30 := fun (i : Nat) (h : wb.heap.size < _) => hb.frozen (p := ⟨wb.heap.size, i, none⟩) h; have ggu3 := hb.size; (try simp at ggu3); (try replace ggu3 := Nat.lt_of_succ_le ggu3); clear hb xx0 xx1 xz; have xx0 := yy0; have xx1 := yy1; have xz := yz; clear yy0 yy1 yz)
                | (go_at_call_of 12 (Value.int IntKind.i64 d); refine (of_any d _).mono ?_; rintro e u4 ⟨rfl, hb⟩; have yy0 := bk hb w1.heap.size 0 (v := .int .i64 n) (by first | assumption | (simp [*, go_sem]; done)) (by first | omega | (simp; done) | (simp; omega)); have yy1 := bk hb w1.heap.size 1 (v := .int .i64 d) (by first | assumption | (simp [*, go_sem]; done)) (by first | omega | (simp; done) | (simp; omega)); have yz := bs (n := w1.heap.size) hb (by first | omega | (simp; done) | (simp; omega)); have Ku4 : Hid (Below wb.heap.size wb u4) := Lib.hid (Below.trans (Below.trans Ku3.out (by (repeat' (first | (with_reducible exact Below.refl _ _) | (with_reducible assumption) | (with_reducible refine bdn ?_ _) | (with_reducible refine Below.drew ?_) | (with_reducible refine Below.alloc ?_ ?_ _) | (with_reducible refine Below.setCell ?_ ?_ _) | go_size)))) (hb.mono (B' := wb.heap.size) (by first | omega | (simp; done) | (simp; omega)))); have ssu4 := Ku4.out.size; have nnu4 : ¬ w1.heap.size = u4.heap.size := (by omega); have mmu4 : ¬ u4.heap.size = w1.heap.size := (by omega); have hcu40 := fun (i : Nat) (h : wb.heap.size < _) => hb.cell (p := ⟨wb.heap.size, i, none⟩) h; have hfu40 := fun (i : Nat) (h : wb.heap.size < _) => hb.frozen (p := ⟨wb.heap.size, i, none⟩) h; have hcu41 := fun (i : Nat) (h : u3.heap.size < _) => hb.cell (p := ⟨u3.heap.size, i, none⟩) h; have hfu41 := fun (i : Nat) (h : u3.heap.size < _) => hb.frozen (p := ⟨u3.heap.size, i, none⟩) h; have ggu4 := hb.size; (try simp at ggu4); (try replace ggu4 := Nat.lt_of_succ_le ggu4); (try have ltu40 := Nat.lt_of_lt_of_le ggu3 ggu4); clear hb xx0 xx1 xz; have xx0 := yy0; have xx1 := yy1; have xz := yz; clear yy0 yy1 yz)
                | (go_at_call 11; refine (quo_t n d rn rd r HI.out.1 HI.out.2.1 HR.out _).mono ?_; rintro e u5 ⟨rfl, hb⟩; have yy0 := bk hb w1.heap.size 0 (v := .int .i64 n) (by first | assumption | (simp [*, go_sem]; done)) (by first | omega | (simp; done) | (simp; omega)); have yy1 := bk hb w1.heap.size 1 (v := .int .i64 d) (by first | assumption | (simp [*, go_sem]; done)) (by first | omega | (simp; done) | (simp; omega)); have yz := bs (n := w1.heap.size) hb (by first | omega | (simp; done) | (simp; omega)); have Ku5 : Hid (Below wb.heap.size wb u5) := Lib.hid (Below.trans (Below.trans Ku4.out (by (repeat' (first | (with_reducible exact Below.refl _ _) | (with_reducible assumption) | (with_reducible refine bdn ?_ _) | (with_reducible refine Below.drew ?_) | (with_reducible refine Below.alloc ?_ ?_ _) | (with_reducible refine Below.setCell ?_ ?_ _) | go_size)))) (hb.mono (B' := wb.heap.size) (by first | omega | (simp; done) | (simp; omega)))); have ssu5 := Ku5.out.size; have nnu5 : ¬ w1.heap.size = u5.heap.size := (by omega); have mmu5 : ¬ u5.heap.size = w1.heap.size := (by omega); have hcu50 := fun (i : Nat) (h : wb.heap.size < _) => hb.cell (p := ⟨wb.heap.size, i, none⟩) h; have hfu50 := fun (i : Nat) (h : wb.heap.size < _) => hb.frozen (p := ⟨wb.heap.size, i, none⟩) h; have hcu51 := fun (i : Nat) (h : u3.heap.size < _) => hb.cell (p := ⟨u3.heap.size, i, none⟩) h; have hfu51 := fun (i : Nat) (h : u3.heap.size < _) => hb.frozen (p := ⟨u3.heap.size, i, none⟩) h; have hcu52 := fun (i : Nat) (h : u4.heap.size < _) => hb.cell (p := ⟨u4.heap.size, i, none⟩) h; have hfu52 := fun (i : Nat) (h : u4.heap.size < _) => hb.frozen (p := ⟨u4.heap.size, i, none⟩) h; have ggu5 := hb.size; (try simp at ggu5); (try replace ggu5 := Nat.lt_of_succ_le ggu5); (try have ltu50 := Nat.lt_of_lt_of_le ltu40 ggu5); (try have ltu51 := Nat.lt_of_lt_of_le ggu4 ggu5); clear hb xx0 xx1 xz; have xx0 := yy0; have xx1 := yy1; have xz := yz; clear yy0 yy1 yz))
            all_goals
              go_wp2_with fail
              go_meet
              refine ⟨_, rfl, rfl, ?_, ?_, ?_, Lib.hid ?_⟩
              all_goals first | assumption | (simp [*, go_sem]; done) | omega | (simp; done) | (simp; omega) | (repeat' (first | exact Ku5.out | (with_reducible refine bdn ?_ _) | (with_reducible refine Below.drew ?_) | (with_reducible refine Below.alloc ?_ ?_ _) | (with_reducible refine Below.setCell ?_ ?_ _) | assumption | omega | (simp; done) | (simp; omega)))
          case rest =>
            obtain ⟨BC, rfl, rfl, ba0, ba1, ba2, EC⟩ := hcut
            clear xx0 xx1 xz
            have SC := Lib.hid (SB.out.below EC.out); have FC := Lib.hid (FB.out.trans (EC.out.mono FB.out.size)); have LC := Lib.hid (Held.more ba0 ba1 ba2 (LB.out.below EC.out))
            clear ba0 ba1 ba2 EC
            obtain ⟨ba0, ba1, ba2⟩ := LC.out.get (n := BA) (a := rn) (b := rd) (by simp)
            obtain ⟨bb0, bb1, bb2⟩ := LC.out.get (n := BB) (a := rn) (b := rd) (by simp)
            go_wp2_with fail
            refine (same_yes rn rd r _).mono ?_; rintro e v1 ⟨rfl, hb⟩
            have X1L := Lib.hid (LC.out.below hb); have X1S := Lib.hid (SC.out.below hb); have X1F := Lib.hid (FC.out.trans (hb.mono FC.out.size)); clear hb
            clear ba0 ba1 ba2 bb0 bb1 bb2
            obtain ⟨ba0, ba1, ba2⟩ := X1L.out.get (n := BA) (a := rn) (b := rd) (by simp)
            obtain ⟨bc0, bc1, bc2⟩ := X1L.out.get (n := BC) (a := rn) (b := rd) (by simp)
            go_wp2_with fail
            refine (same_yes rn rd r _).mono ?_; rintro e v2 ⟨rfl, hb⟩
            have X2L := Lib.hid (X1L.out.below hb); have X2S := Lib.hid (X1S.out.below hb); have X2F := Lib.hid (X1F.out.trans (hb.mono X1F.out.size)); clear hb
            clear ba0 ba1 ba2 bc0 bc1 bc2
            obtain ⟨ba0, ba1, ba2⟩ := X2L.out.get (n := BA) (a := rn) (b := rd) (by simp)
            go_wp2_with fail
            refine (rightT rn rd RR.out _).mono ?_; rintro e v3 ⟨rfl, hb⟩
            have X3L := Lib.hid (X2L.out.below hb); have X3S := Lib.hid (X2S.out.below hb); have X3F := Lib.hid (X2F.out.trans (hb.mono X2F.out.size)); clear hb
            clear ba0 ba1 ba2
            go_wp2_with fail
            refine (of_any n _).mono ?_; rintro e v4 ⟨rfl, hb⟩
            have X4L := Lib.hid (X3L.out.below hb); have X4S := Lib.hid (X3S.out.below hb); have X4F := Lib.hid (X3F.out.trans (hb.mono X3F.out.size)); clear hb
            go_wp2
            case roundEnd => exact ⟨⟨1, by decide, by simp, X4S, X4F⟩, by simp [intOf]⟩
    · skip
      obtain ⟨rn, hrn⟩ : ∃ a, Num.resN s t = a := ⟨_, rfl⟩
      obtain ⟨rd, hrd⟩ : ∃ a, Num.resD s t = a := ⟨_, rfl⟩
      obtain ⟨r, hr⟩ : ∃ a, Num.okB s t = a := ⟨_, rfl⟩
      have HR := Lib.hid (And.intro hrn (And.intro hrd hr)); clear hrn hrd hr
      have RR := Lib.hid (show Rt rn rd by rw [← HR.out.1, ← HR.out.2.1]; exact Rt.res _ _)
      have CI := Lib.hid (show (0 : Int) ≤ ((1 : Nat) : Int) ∧ ((1 : Nat) : Int) < 3 by omega)
      have xx0 := S2.out.2.2.1
      have xx1 := S2.out.2.2.2.1
      have xz := S2.out.2.2.2.2.2.2
      go_upto_region 6 with fail
      go_cut [10, 11] (fun s1 s2 wx => ∃ B : Nat, s1 = .pointer (some ⟨B, 0, none⟩) ∧ s2 = .bool r ∧ wx.cell? ⟨B, 0, none⟩ = some (.int .i64 rn) ∧ wx.cell? ⟨B, 1, none⟩ = some (.int .i64 rd) ∧ B < wx.heap.size ∧ Hid (Below wr.heap.size wr wx))
      case first =>
        have nn0 : ¬ w1.heap.size = wr.heap.size := by omega
        have mm0 : ¬ wr.heap.size = w1.heap.size := by omega
        go_region_held3 (fun w' => w'.cell? ⟨w1.heap.size, 2, none⟩ = some (.int .i64 s) ∧ w'.cell? ⟨w1.heap.size, 3, none⟩ = some (.int .i64 t)) (first | (simp [*, go_sem]; done) | (simp [*, go_sem, World.cell?_alloc_past]; done))
          (first
            | (go_at_call 9; refine (make_t s t rn rd r HI.out.2.2.1 HI.out.2.2.2 HR.out _).mono ?_; rintro e u1 ⟨rfl, hb⟩; have yy0 := bk hb w1.heap.size 2 (v := .int .i64 s) (by first | assumption | (simp [*, go_sem]; done)) (by first | omega | (simp; done) | (simp; omega)); have yy1 := bk hb w1.heap.size 3 (v := .int .i64 t) (by first | assumption | (simp [*, go_sem]; done)) (by first | omega | (simp; done) | (simp; omega)); have yz := bs (n := w1.heap.size) hb (by first | omega | (simp; done) | (simp; omega)); have Ku1 : Hid (Below wr.heap.size wr u1) := Lib.hid (Below.trans (Below.trans (Below.refl _ _) (by (repeat' (first | (with_reducible exact Below.refl _ _) | (with_reducible assumption) | (with_reducible refine bdn ?_ _) | (with_reducible refine Below.drew ?_) | (with_reducible refine Below.alloc ?_ ?_ _) | (with_reducible refine Below.setCell ?_ ?_ _) | go_size)))) (hb.mono (B' := wr.heap.size) (by first | omega | (simp; done) | (simp; omega)))); have ssu1 := Ku1.out.size; have nnu1 : ¬ w1.heap.size = u1.heap.size := (by omega); have mmu1 : ¬ u1.heap.size = w1.heap.size := (by omega); have hcu10 := fun (i : Nat) (h : wr.heap.size < _) => hb.cell (p := ⟨wr.heap.size, i, none⟩) h; have hfu10 := fun (i : Nat) (h : wr.heap.size < _) => hb.frozen (p := ⟨wr.heap.size, i, none⟩) h; have ggu1 := hb.size; (try simp at ggu1); (try replace ggu1 := Nat.lt_of_succ_le ggu1); clear hb xx0 xx1 xz; have xx0 := yy0; have xx1 := yy1; have xz := yz; clear yy0 yy1 yz))
        all_goals
          go_wp2_with fail
          go_meet
          refine ⟨_, rfl, rfl, ?_, ?_, ?_, Lib.hid ?_⟩
          all_goals first | assumption | (simp [*, go_sem]; done) | omega | (simp; done) | (simp; omega) | (repeat' (first | exact Ku1.out | (with_reducible refine bdn ?_ _) | (with_reducible refine Below.drew ?_) | (with_reducible refine Below.alloc ?_ ?_ _) | (with_reducible refine Below.setCell ?_ ?_ _) | assumption | omega | (simp; done) | (simp; omega)))
      case rest =>
        obtain ⟨wa, hwa⟩ : ∃ x, x = wc := ⟨_, rfl⟩; subst hwa
        obtain ⟨BA, rfl, rfl, ba0, ba1, ba2, EA⟩ := hcut
        clear xx0 xx1 xz
        have SA := Lib.hid (S2.out.below EA.out); have FA := Lib.hid (E2.out.trans (EA.out.mono E2.out.size)); have LA := Lib.hid (Held.one ba0 ba1 ba2)
        clear ba0 ba1 ba2 EA
        have xx0 := SA.out.2.2.1
        have xx1 := SA.out.2.2.2.1
        have xz := SA.out.2.2.2.2.2.2
        go_upto_region 7 with fail
        go_cut [12, 13] (fun s1 s2 wx => ∃ B : Nat, s1 = .pointer (some ⟨B, 0, none⟩) ∧ s2 = .bool r ∧ wx.cell? ⟨B, 0, none⟩ = some (.int .i64 rn) ∧ wx.cell? ⟨B, 1, none⟩ = some (.int .i64 rd) ∧ B < wx.heap.size ∧ Hid (Below wa.heap.size wa wx))
        case first =>
          have nn0 : ¬ w1.heap.size = wa.heap.size := by omega
          have mm0 : ¬ wa.heap.size = w1.heap.size := by omega
          go_region_held3 (fun w' => w'.cell? ⟨w1.heap.size, 2, none⟩ = some (.int .i64 s) ∧ w'.cell? ⟨w1.heap.size, 3, none⟩ = some (.int .i64 t)) (first | (simp [*, go_sem]; done) | (simp [*, go_sem, World.cell?_alloc_past]; done))
            (first
              | (go_at_call 10; refine (refMake_t s t rn rd r HI.out.2.2.1 HI.out.2.2.2 HR.out _).mono ?_; rintro e u2 ⟨rfl, hb⟩; have yy0 := bk hb w1.heap.size 2 (v := .int .i64 s) (by first | assumption | (simp [*, go_sem]; done)) (by first | omega | (simp; done) | (simp; omega)); have yy1 := bk hb w1.heap.size 3 (v := .int .i64 t) (by first | assumption | (simp [*, go_sem]; done)) (by first | omega | (simp; done) | (simp; omega)); have yz := bs (n := w1.heap.size) hb (by first | omega | (simp; done) | (simp; omega)); have Ku2 : Hid (Below wa.heap.size wa u2) := Lib.hid (Below.trans (Below.trans (Below.refl _ _) (by (repeat' (first | (with_reducible exact Below.refl _ _) | (with_reducible assumption) | (with_reducible refine bdn ?_ _) | (with_reducible refine Below.drew ?_) | (with_reducible refine Below.alloc ?_ ?_ _) | (with_reducible refine Below.setCell ?_ ?_ _) | go_size)))) (hb.mono (B' := wa.heap.size) (by first | omega | (simp; done) | (simp; omega)))); have ssu2 := Ku2.out.size; have nnu2 : ¬ w1.heap.size = u2.heap.size := (by omega); have mmu2 : ¬ u2.heap.size = w1.heap.size := (by omega); have hcu20 := fun (i : Nat) (h : wa.heap.size < _) => hb.cell (p := ⟨wa.heap.size, i, none⟩) h; have hfu20 := fun (i : Nat) (h : wa.heap.size < _) => hb.frozen (p := ⟨wa.heap.size, i, none⟩) h; have ggu2 := hb.size; (try simp at ggu2); (try replace ggu2 := Nat.lt_of_succ_le ggu2); clear hb xx0 xx1 xz; have xx0 := yy0; have xx1 := yy1; have xz := yz; clear yy0 yy1 yz))
          all_goals
            go_wp2_with fail
            go_meet
            refine ⟨_, rfl, rfl, ?_, ?_, ?_, Lib.hid ?_⟩
            all_goals first | assumption | (simp [*, go_sem]; done) | omega | (simp; done) | (simp; omega) | (repeat' (first | exact Ku2.out | (with_reducible refine bdn ?_ _) | (with_reducible refine Below.drew ?_) | (with_reducible refine Below.alloc ?_ ?_ _) | (with_reducible refine Below.setCell ?_ ?_ _) | assumption | omega | (simp; done) | (simp; omega)))
        case rest =>
          obtain ⟨wb, hwa⟩ : ∃ x, x = wc := ⟨_, rfl⟩; subst hwa
          obtain ⟨BB, rfl, rfl, ba0, ba1, ba2, EB⟩ := hcut
          clear xx0 xx1 xz
          have SB := Lib.hid (SA.out.below EB.out); have FB := Lib.hid (FA.out.trans (EB.out.mono FA.out.size)); have LB := Lib.hid (Held.more ba0 ba1 ba2 (LA.out.below EB.out))
          clear ba0 ba1 ba2 EB
          have xx0 := SB.out.2.2.1
          have xx1 := SB.out.2.2.2.1
          have xz := SB.out.2.2.2.2.2.2
          go_upto_region 8 with fail
          go_cut [14, 15] (fun s1 s2 wx => ∃ B : Nat, s1 = .pointer (some ⟨B, 0, none⟩) ∧ s2 = .bool r ∧ wx.cell? ⟨B, 0, none⟩ = some (.int .i64 rn) ∧ wx.cell? ⟨B, 1, none⟩ = some (.int .i64 rd) ∧ B < wx.heap.size ∧ Hid (Below wb.heap.size wb wx))
          case first =>
            have nn0 : ¬ w1.heap.size = wb.heap.size := by omega
            have mm0 : ¬ wb.heap.size = w1.heap.size := by omega
            go_region_held3 (fun w' => w'.cell? ⟨w1.heap.size, 2, none⟩ = some (.int .i64 s) ∧ w'.cell? ⟨w1.heap.size, 3, none⟩ = some (.int .i64 t)) (first | (simp [*, go_sem]; done) | (simp [*, go_sem, World.cell?_alloc_past]; done))
              (first
                | (go_at_call_of 12 (Value.int IntKind.i64 s); refine (of_any s _).mono ?_; rintro e u3 ⟨rfl, hb⟩; have yy0 := bk hb w1.heap.size 2 (v := .int .i64 s) (by first | assumption | (simp [*, go_sem]; done)) (by first | omega | (simp; done) | (simp; omega)); have yy1 := bk hb w1.heap.size 3 (v := .int .i64 t) (by first | assumption | (simp [*, go_sem]; done)) (by first | omega | (simp; done) | (simp; omega)); have yz := bs (n := w1.heap.size) hb (by first | omega | (simp; done) | (simp; omega)); have Ku3 : Hid (Below wb.heap.size wb u3) := Lib.hid (Below.trans (Below.trans (Below.refl _ _) (by (repeat' (first | (with_reducible exact Below.refl _ _) | (with_reducible assumption) | (with_reducible refine bdn ?_ _) | (with_reducible refine Below.drew ?_) | (with_reducible refine Below.alloc ?_ ?_ _) | (with_reducible refine Below.setCell ?_ ?_ _) | go_size)))) (hb.mono (B' := wb.heap.size) (by first | omega | (simp; done) | (simp; omega)))); have ssu3 := Ku3.out.size; have nnu3 : ¬ w1.heap.size = u3.heap.size := (by omega); have mmu3 : ¬ u3.heap.size = w1.heap.size := (by omega); have hcu30 := fun (i : Nat) (h : wb.heap.size < _) => hb.cell (p := ⟨wb.heap.size, i, none⟩) h; have hfu30 := fun (i : Nat) (h : wb.heap.size < _) => hb.frozen (p := ⟨wb.heap.size, i, none⟩) h; have ggu3 := hb.size; (try simp at ggu3); (try replace ggu3 := Nat.lt_of_succ_le ggu3); clear hb xx0 xx1 xz; have xx0 := yy0; have xx1 := yy1; have xz := yz; clear yy0 yy1 yz)
                | (go_at_call_of 12 (Value.int IntKind.i64 t); refine (of_any t _).mono ?_; rintro e u4 ⟨rfl, hb⟩; have yy0 := bk hb w1.heap.size 2 (v := .int .i64 s) (by first | assumption | (simp [*, go_sem]; done)) (by first | omega | (simp; done) | (simp; omega)); have yy1 := bk hb w1.heap.size 3 (v := .int .i64 t) (by first | assumption | (simp [*, go_sem]; done)) (by first | omega | (simp; done) | (simp; omega)); have yz := bs (n := w1.heap.size) hb (by first | omega | (simp; done) | (simp; omega)); have Ku4 : Hid (Below wb.heap.size wb u4) := Lib.hid (Below.trans (Below.trans Ku3.out (by (repeat' (first | (with_reducible exact Below.refl _ _) | (with_reducible assumption) | (with_reducible refine bdn ?_ _) | (with_reducible refine Below.drew ?_) | (with_reducible refine Below.alloc ?_ ?_ _) | (with_reducible refine Below.setCell ?_ ?_ _) | go_size)))) (hb.mono (B' := wb.heap.size) (by first | omega | (simp; done) | (simp; omega)))); have ssu4 := Ku4.out.size; have nnu4 : ¬ w1.heap.size = u4.heap.size := (by omega); have mmu4 : ¬ u4.heap.size = w1.heap.size := (by omega); have hcu40 := fun (i : Nat) (h : wb.heap.size < _) => hb.cell (p := ⟨wb.heap.size, i, none⟩) h; have hfu40 := fun (i : Nat) (h : wb.heap.size < _) => hb.frozen (p := ⟨wb.heap.size, i, none⟩) h; have hcu41 := fun (i : Nat) (h : u3.heap.size < _) => hb.cell (p := ⟨u3.heap.size, i, none⟩) h; have hfu41 := fun (i : Nat) (h : u3.heap.size < _) => hb.frozen (p := ⟨u3.heap.size, i, none⟩) h; have ggu4 := hb.size; (try simp at ggu4); (try replace ggu4 := Nat.lt_of_succ_le ggu4); (try have ltu40 := Nat.lt_of_lt_of_le ggu3 ggu4); clear hb xx0 xx1 xz; have xx0 := yy0; have xx1 := yy1; have xz := yz; clear yy0 yy1 yz)
                | (go_at_call 11; refine (quo_t s t rn rd r HI.out.2.2.1 HI.out.2.2.2 HR.out _).mono ?_; rintro e u5 ⟨rfl, hb⟩; have yy0 := bk hb w1.heap.size 2 (v := .int .i64 s) (by first | assumption | (simp [*, go_sem]; done)) (by first | omega | (simp; done) | (simp; omega)); have yy1 := bk hb w1.heap.size 3 (v := .int .i64 t) (by first | assumption | (simp [*, go_sem]; done)) (by first | omega | (simp; done) | (simp; omega)); have yz := bs (n := w1.heap.size) hb (by first | omega | (simp; done) | (simp; omega)); have Ku5 : Hid (Below wb.heap.size wb u5) := Lib.hid (Below.trans (Below.trans Ku4.out (by (repeat' (first | (with_reducible exact Below.refl _ _) | (with_reducible assumption) | (with_reducible refine bdn ?_ _) | (with_reducible refine Below.drew ?_) | (with_reducible refine Below.alloc ?_ ?_ _) | (with_reducible refine Below.setCell ?_ ?_ _) | go_size)))) (hb.mono (B' := wb.heap.size) (by first | omega | (simp; done) | (simp; omega)))); have ssu5 := Ku5.out.size; have nnu5 : ¬ w1.heap.size = u5.heap.size := (by omega); have mmu5 : ¬ u5.heap.size = w1.heap.size := (by omega); have hcu50 := fun (i : Nat) (h : wb.heap.size < _) => hb.cell (p := ⟨wb.heap.size, i, none⟩) h; have hfu50 := fun (i : Nat) (h : wb.heap.size < _) => hb.frozen (p := ⟨wb.heap.size, i, none⟩) h; have hcu51 := fun (i : Nat) (h : u3.heap.size < _) => hb.cell (p := ⟨u3.heap.size, i, none⟩) h; have hfu51 := fun (i : Nat) (h : u3.heap.size < _) => hb.frozen (p := ⟨u3.heap.size, i, none⟩) h; have hcu52 := fun (i : Nat) (h : u4.heap.size < _) => hb.cell (p := ⟨u4.heap.size, i, none⟩) h; have hfu52 := fun (i : Nat) (h : u4.heap.size < _) => hb.frozen (p := ⟨u4.heap.size, i, none⟩) h; have ggu5 := hb.size; (try simp at ggu5); (try replace ggu5 := Nat.lt_of_succ_le ggu5); (try have ltu50 := Nat.lt_of_lt_of_le ltu40 ggu5); (try have ltu51 := Nat.lt_of_lt_of_le ggu4 ggu5); clear hb xx0 xx1 xz; have xx0 := yy0; have xx1 := yy1; have xz := yz; clear yy0 yy1 yz))
            all_goals
              go_wp2_with fail
              go_meet
              refine ⟨_, rfl, rfl, ?_, ?_, ?_, Lib.hid ?_⟩
              all_goals first | assumption | (simp [*, go_sem]; done) | omega | (simp; done) | (simp; omega) | (repeat' (first | exact Ku5.out | (with_reducible refine bdn ?_ _) | (with_reducible refine Below.drew ?_) | (with_reducible refine Below.alloc ?_ ?_ _) | (with_reducible refine Below.setCell ?_ ?_ _) | assumption | omega | (simp; done) | (simp; omega)))
          case rest =>
            obtain ⟨BC, rfl, rfl, ba0, ba1, ba2, EC⟩ := hcut
            clear xx0 xx1 xz
            have SC := Lib.hid (SB.out.below EC.out); have FC := Lib.hid (FB.out.trans (EC.out.mono FB.out.size)); have LC := Lib.hid (Held.more ba0 ba1 ba2 (LB.out.below EC.out))
            clear ba0 ba1 ba2 EC
            obtain ⟨ba0, ba1, ba2⟩ := LC.out.get (n := BA) (a := rn) (b := rd) (by simp)
            obtain ⟨bb0, bb1, bb2⟩ := LC.out.get (n := BB) (a := rn) (b := rd) (by simp)
            go_wp2_with fail
            refine (same_yes rn rd r _).mono ?_; rintro e v1 ⟨rfl, hb⟩
            have X1L := Lib.hid (LC.out.below hb); have X1S := Lib.hid (SC.out.below hb); have X1F := Lib.hid (FC.out.trans (hb.mono FC.out.size)); clear hb
            clear ba0 ba1 ba2 bb0 bb1 bb2
            obtain ⟨ba0, ba1, ba2⟩ := X1L.out.get (n := BA) (a := rn) (b := rd) (by simp)
            obtain ⟨bc0, bc1, bc2⟩ := X1L.out.get (n := BC) (a := rn) (b := rd) (by simp)
            go_wp2_with fail
            refine (same_yes rn rd r _).mono ?_; rintro e v2 ⟨rfl, hb⟩
            have X2L := Lib.hid (X1L.out.below hb); have X2S := Lib.hid (X1S.out.below hb); have X2F := Lib.hid (X1F.out.trans (hb.mono X1F.out.size)); clear hb
            clear ba0 ba1 ba2 bc0 bc1 bc2
            obtain ⟨ba0, ba1, ba2⟩ := X2L.out.get (n := BA) (a := rn) (b := rd) (by simp)
            go_wp2_with fail
            refine (rightT rn rd RR.out _).mono ?_; rintro e v3 ⟨rfl, hb⟩
            have X3L := Lib.hid (X2L.out.below hb); have X3S := Lib.hid (X2S.out.below hb); have X3F := Lib.hid (X2F.out.trans (hb.mono X2F.out.size)); clear hb
            clear ba0 ba1 ba2
            go_wp2_with fail
            refine (of_any n _).mono ?_; rintro e v4 ⟨rfl, hb⟩
            have X4L := Lib.hid (X3L.out.below hb); have X4S := Lib.hid (X3S.out.below hb); have X4F := Lib.hid (X3F.out.trans (hb.mono X3F.out.size)); clear hb
            go_wp2
            case roundEnd => exact ⟨⟨2, by decide, by simp, X4S, X4F⟩, by simp [intOf]⟩
    · skip
      obtain ⟨rn, hrn⟩ : ∃ a, Num.resN n t = a := ⟨_, rfl⟩
      obtain ⟨rd, hrd⟩ : ∃ a, Num.resD n t = a := ⟨_, rfl⟩
      obtain ⟨r, hr⟩ : ∃ a, Num.okB n t = a := ⟨_, rfl⟩
      have HR := Lib.hid (And.intro hrn (And.intro hrd hr)); clear hrn hrd hr
      have RR := Lib.hid (show Rt rn rd by rw [← HR.out.1, ← HR.out.2.1]; exact Rt.res _ _)
      have CI := Lib.hid (show (0 : Int) ≤ ((2 : Nat) : Int) ∧ ((2 : Nat) : Int) < 3 by omega)
      have xx0 := S2.out.2.2.2.2.1
      have xx1 := S2.out.2.2.2.2.2.1
      have xz := S2.out.2.2.2.2.2.2
      go_upto_region 6 with fail
      go_cut [10, 11] (fun s1 s2 wx => ∃ B : Nat, s1 = .pointer (some ⟨B, 0, none⟩) ∧ s2 = .bool r ∧ wx.cell? ⟨B, 0, none⟩ = some (.int .i64 rn) ∧ wx.cell? ⟨B, 1, none⟩ = some (.int .i64 rd) ∧ B < wx.heap.size ∧ Hid (Below wr.heap.size wr wx))
      case first =>
        have nn0 : ¬ w1.heap.size = wr.heap.size := by omega
        have mm0 : ¬ wr.heap.size = w1.heap.size := by omega
        go_region_held3 (fun w' => w'.cell? ⟨w1.heap.size, 4, none⟩ = some (.int .i64 n) ∧ w'.cell? ⟨w1.heap.size, 5, none⟩ = some (.int .i64 t)) (first | (simp [*, go_sem]; done) | (simp [*, go_sem, World.cell?_alloc_past]; done))
          (first
            | (go_at_call 9; refine (make_t n t rn rd r HI.out.1 HI.out.2.2.2 HR.out _).mono ?_; rintro e u1 ⟨rfl, hb⟩; have yy0 := bk hb w1.heap.size 4 (v := .int .i64 n) (by first | assumption | (simp [*, go_sem]; done)) (by first | omega | (simp; done) | (simp; omega)); have yy1 := bk hb w1.heap.size 5 (v := .int .i64 t) (by first | assumption | (simp [*, go_sem]; done)) (by first | omega | (simp; done) | (simp; omega)); have yz := bs (n := w1.heap.size) hb (by first | omega | (simp; done) | (simp; omega)); have Ku1 : Hid (Below wr.heap.size wr u1) := Lib.hid (Below.trans (Below.trans (Below.refl _ _) (by (repeat' (first | (with_reducible exact Below.refl _ _) | (with_reducible assumption) | (with_reducible refine bdn ?_ _) | (with_reducible refine Below.drew ?_) | (with_reducible refine Below.alloc ?_ ?_ _) | (with_reducible refine Below.setCell ?_ ?_ _) | go_size)))) (hb.mono (B' := wr.heap.size) (by first | omega | (simp; done) | (simp; omega)))); have ssu1 := Ku1.out.size; have nnu1 : ¬ w1.heap.size = u1.heap.size := (by omega); have mmu1 : ¬ u1.heap.size = w1.heap.size := (by omega); have hcu10 := fun (i : Nat) (h : wr.heap.size < _) => hb.cell (p := ⟨wr.heap.size, i, none⟩) h; have hfu10 := fun (i : Nat) (h : wr.heap.size < _) => hb.frozen (p := ⟨wr.heap.size, i, none⟩) h; have ggu1 := hb.size; (try simp at ggu1); (try replace ggu1 := Nat.lt_of_succ_le ggu1); clear hb xx0 xx1 xz; have xx0 := yy0; have xx1 := yy1; have xz := yz; clear yy0 yy1 yz))
        all_goals
          go_wp2_with fail
          go_meet
          refine ⟨_, rfl, rfl, ?_, ?_, ?_, Lib.hid ?_⟩
          all_goals first | assumption | (simp [*, go_sem]; done) | omega | (simp; done) | (simp; omega) | (repeat' (first | exact Ku1.out | (with_reducible refine bdn ?_ _) | (with_reducible refine Below.drew ?_) | (with_reducible refine Below.alloc ?_ ?_ _) | (with_reducible refine Below.setCell ?_ ?_ _) | assumption | omega | (simp; done) | (simp; omega)))
      case rest =>
        obtain ⟨wa, hwa⟩ : ∃ x, x = wc := ⟨_, rfl⟩; subst hwa
        obtain ⟨BA, rfl, rfl, ba0, ba1, ba2, EA⟩ := hcut
        clear xx0 xx1 xz
        have SA := Lib.hid (S2.out.below EA.out); have FA := Lib.hid (E2.out.trans (EA.out.mono E2.out.size)); have LA := Lib.hid (Held.one ba0 ba1 ba2)
        clear ba0 ba1 ba2 EA
        have xx0 := SA.out.2.2.2.2.1
        have xx1 := SA.out.2.2.2.2.2.1
        have xz := SA.out.2.2.2.2.2.2
        go_upto_region 7 with fail
        go_cut [12, 13] (fun s1 s2 wx => ∃ B : Nat, s1 = .pointer (some ⟨B, 0, none⟩) ∧ s2 = .bool r ∧ wx.cell? ⟨B, 0, none⟩ = some (.int .i64 rn) ∧ wx.cell? ⟨B, 1, none⟩ = some (.int .i64 rd) ∧ B < wx.heap.size ∧ Hid (Below wa.heap.size wa wx))
        case first =>
          have nn0 : ¬ w1.heap.size = wa.heap.size := by omega
          have mm0 : ¬ wa.heap.size = w1.heap.size := by omega
          go_region_held3 (fun w' => w'.cell? ⟨w1.heap.size, 4, none⟩ = some (.int .i64 n) ∧ w'.cell? ⟨w1.heap.size, 5, none⟩ = some (.int .i64 t)) (first | (simp [*, go_sem]; done) | (simp [*, go_sem, World.cell?_alloc_past]; done))
            (first
              | (go_at_call 10; refine (refMake_t n t rn rd r HI.out.1 HI.out.2.2.2 HR.out _).mono ?_; rintro e u2 ⟨rfl, hb⟩; have yy0 := bk hb w1.heap.size 4 (v := .int .i64 n) (by first | assumption | (simp [*, go_sem]; done)) (by first | omega | (simp; done) | (simp; omega)); have yy1 := bk hb w1.heap.size 5 (v := .int .i64 t) (by first | assumption | (simp [*, go_sem]; done)) (by first | omega | (simp; done) | (simp; omega)); have yz := bs (n := w1.heap.size) hb (by first | omega | (simp; done) | (simp; omega)); have Ku2 : Hid (Below wa.heap.size wa u2) := Lib.hid (Below.trans (Below.trans (Below.refl _ _) (by (repeat' (first | (with_reducible exact Below.refl _ _) | (with_reducible assumption) | (with_reducible refine bdn ?_ _) | (with_reducible refine Below.drew ?_) | (with_reducible refine Below.alloc ?_ ?_ _) | (with_reducible refine Below.setCell ?_ ?_ _) | go_size)))) (hb.mono (B' := wa.heap.size) (by first | omega | (simp; done) | (simp; omega)))); have ssu2 := Ku2.out.size; have nnu2 : ¬ w1.heap.size = u2.heap.size := (by omega); have mmu2 : ¬ u2.heap.size = w1.heap.size := (by omega); have hcu20 := fun (i : Nat) (h : wa.heap.size < _) => hb.cell (p := ⟨wa.heap.size, i, none⟩) h; have hfu20 := fun (i : Nat) (h : wa.heap.size < _) => hb.frozen (p := ⟨wa.heap.size, i, none⟩) h; have ggu2 := hb.size; (try simp at ggu2); (try replace ggu2 := Nat.lt_of_succ_le ggu2); clear hb xx0 xx1 xz; have xx0 := yy0; have xx1 := yy1; have xz := yz; clear yy0 yy1 yz))
          all_goals
            go_wp2_with fail
            go_meet
            refine ⟨_, rfl, rfl, ?_, ?_, ?_, Lib.hid ?_⟩
            all_goals first | assumption | (simp [*, go_sem]; done) | omega | (simp; done) | (simp; omega) | (repeat' (first | exact Ku2.out | (with_reducible refine bdn ?_ _) | (with_reducible refine Below.drew ?_) | (with_reducible refine Below.alloc ?_ ?_ _) | (with_reducible refine Below.setCell ?_ ?_ _) | assumption | omega | (simp; done) | (simp; omega)))
        case rest =>
          obtain ⟨wb, hwa⟩ : ∃ x, x = wc := ⟨_, rfl⟩; subst hwa
          obtain ⟨BB, rfl, rfl, ba0, ba1, ba2, EB⟩ := hcut
          clear xx0 xx1 xz
          have SB := Lib.hid (SA.out.below EB.out); have FB := Lib.hid (FA.out.trans (EB.out.mono FA.out.size)); have LB := Lib.hid (Held.more ba0 ba1 ba2 (LA.out.below EB.out))
          clear ba0 ba1 ba2 EB
          have xx0 := SB.out.2.2.2.2.1
          have xx1 := SB.out.2.2.2.2.2.1
          have xz := SB.out.2.2.2.2.2.2
          go_upto_region 8 with fail
          go_cut [14, 15] (fun s1 s2 wx => ∃ B : Nat, s1 = .pointer (some ⟨B, 0, none⟩) ∧ s2 = .bool r ∧ wx.cell? ⟨B, 0, none⟩ = some (.int .i64 rn) ∧ wx.cell? ⟨B, 1, none⟩ = some (.int .i64 rd) ∧ B < wx.heap.size ∧ Hid (Below wb.heap.size wb wx))
          case first =>
            have nn0 : ¬ w1.heap.size = wb.heap.size := by omega
            have mm0 : ¬ wb.heap.size = w1.heap.size := by omega
            go_region_held3 (fun w' => w'.cell? ⟨w1.heap.size, 4, none⟩ = some (.int .i64 n) ∧ w'.cell? ⟨w1.heap.size, 5, none⟩ = some (.int .i64 t)) (first | (simp [*, go_sem]; done) | (simp [*, go_sem, World.cell?_alloc_past]; done))
              (first
                | (go_at_call_of 12 (Value.int IntKind.i64 n); refine (of_any n _).mono ?_; rintro e u3 ⟨rfl, hb⟩; have yy0 := bk hb w1.heap.size 4 (v := .int .i64 n) (by first | assumption | (simp [*, go_sem]; done)) (by first | omega | (simp; done) | (simp; omega)); have yy1 := bk hb w1.heap.size 5 (v := .int .i64 t) (by first | assumption | (simp [*, go_sem]; done)) (by first | omega | (simp; done) | (simp; omega)); have yz := bs (n := w1.heap.size) hb (by first | omega | (simp; done) | (simp; omega)); have Ku3 : Hid (Below wb.heap.size wb u3) := Lib.hid (Below.trans (Below.trans (Below.refl _ _) (by (repeat' (first | (with_reducible exact Below.refl _ _) | (with_reducible assumption) | (with_reducible refine bdn ?_ _) | (with_reducible refine Below.drew ?_) | (with_reducible refine Below.alloc ?_ ?_ _) | (with_reducible refine Below.setCell ?_ ?_ _) | go_size)))) (hb.mono (B' := wb.heap.size) (by first | omega | (simp; done) | (simp; omega)))); have ssu3 := Ku3.out.size; have nnu3 : ¬ w1.heap.size = u3.heap.size := (by omega); have mmu3 : ¬ u3.heap.size = w1.heap.size := (by omega); have hcu30 := fun (i : Nat) (h : wb.heap.size < _) => hb.cell (p := ⟨wb.heap.size, i, none⟩) h; have hfu30 := fun (i : Nat) (h : wb.heap.size < _) => hb.frozen (p := ⟨wb.heap.size, i, none⟩) h; have ggu3 := hb.size; (try simp at ggu3); (try replace ggu3 := Nat.lt_of_succ_le ggu3); clear hb xx0 xx1 xz; have xx0 := yy0; have xx1 := yy1; have xz := yz; clear yy0 yy1 yz)
                | (go_at_call_of 12 (Value.int IntKind.i64 t); refine (of_any t _).mono ?_; rintro e u4 ⟨rfl, hb⟩; have yy0 := bk hb w1.heap.size 4 (v := .int .i64 n) (by first | assumption | (simp [*, go_sem]; done)) (by first | omega | (simp; done) | (simp; omega)); have yy1 := bk hb w1.heap.size 5 (v := .int .i64 t) (by first | assumption | (simp [*, go_sem]; done)) (by first | omega | (simp; done) | (simp; omega)); have yz := bs (n := w1.heap.size) hb (by first | omega | (simp; done) | (simp; omega)); have Ku4 : Hid (Below wb.heap.size wb u4) := Lib.hid (Below.trans (Below.trans Ku3.out (by (repeat' (first | (with_reducible exact Below.refl _ _) | (with_reducible assumption) | (with_reducible refine bdn ?_ _) | (with_reducible refine Below.drew ?_) | (with_reducible refine Below.alloc ?_ ?_ _) | (with_reducible refine Below.setCell ?_ ?_ _) | go_size)))) (hb.mono (B' := wb.heap.size) (by first | omega | (simp; done) | (simp; omega)))); have ssu4 := Ku4.out.size; have nnu4 : ¬ w1.heap.size = u4.heap.size := (by omega); have mmu4 : ¬ u4.heap.size = w1.heap.size := (by omega); have hcu40 := fun (i : Nat) (h : wb.heap.size < _) => hb.cell (p := ⟨wb.heap.size, i, none⟩) h; have hfu40 := fun (i : Nat) (h : wb.heap.size < _) => hb.frozen (p := ⟨wb.heap.size, i, none⟩) h; have hcu41 := fun (i : Nat) (h : u3.heap.size < _) => hb.cell (p := ⟨u3.heap.size, i, none⟩) h; have hfu41 := fun (i : Nat) (h : u3.heap.size < _) => hb.frozen (p := ⟨u3.heap.size, i, none⟩) h; have ggu4 := hb.size; (try simp at ggu4); (try replace ggu4 := Nat.lt_of_succ_le ggu4); (try have ltu40 := Nat.lt_of_lt_of_le ggu3 ggu4); clear hb xx0 xx1 xz; have xx0 := yy0; have xx1 := yy1; have xz := yz; clear yy0 yy1 yz)
                | (go_at_call 11; refine (quo_t n t rn rd r HI.out.1 HI.out.2.2.2 HR.out _).mono ?_; rintro e u5 ⟨rfl, hb⟩; have yy0 := bk hb w1.heap.size 4 (v := .int .i64 n) (by first | assumption | (simp [*, go_sem]; done)) (by first | omega | (simp; done) | (simp; omega)); have yy1 := bk hb w1.heap.size 5 (v := .int .i64 t) (by first | assumption | (simp [*, go_sem]; done)) (by first | omega | (simp; done) | (simp; omega)); have yz := bs (n := w1.heap.size) hb (by first | omega | (simp; done) | (simp; omega)); have Ku5 : Hid (Below wb.heap.size wb u5) := Lib.hid (Below.trans (Below.trans Ku4.out (by (repeat' (first | (with_reducible exact Below.refl _ _) | (with_reducible assumption) | (with_reducible refine bdn ?_ _) | (with_reducible refine Below.drew ?_) | (with_reducible refine Below.alloc ?_ ?_ _) | (with_reducible refine Below.setCell ?_ ?_ _) | go_size)))) (hb.mono (B' := wb.heap.size) (by first | omega | (simp; done) | (simp; omega)))); have ssu5 := Ku5.out.size; have nnu5 : ¬ w1.heap.size = u5.heap.size := (by omega); have mmu5 : ¬ u5.heap.size = w1.heap.size := (by omega); have hcu50 := fun (i : Nat) (h : wb.heap.size < _) => hb.cell (p := ⟨wb.heap.size, i, none⟩) h; have hfu50 := fun (i : Nat) (h : wb.heap.size < _) => hb.frozen (p := ⟨wb.heap.size, i, none⟩) h; have hcu51 := fun (i : Nat) (h : u3.heap.size < _) => hb.cell (p := ⟨u3.heap.size, i, none⟩) h; have hfu51 := fun (i : Nat) (h : u3.heap.size < _) => hb.frozen (p := ⟨u3.heap.size, i, none⟩) h; have hcu52 := fun (i : Nat) (h : u4.heap.size < _) => hb.cell (p := ⟨u4.heap.size, i, none⟩) h; have hfu52 := fun (i : Nat) (h : u4.heap.size < _) => hb.frozen (p := ⟨u4.heap.size, i, none⟩) h; have ggu5 := hb.size; (try simp at ggu5); (try replace ggu5 := Nat.lt_of_succ_le ggu5); (try have ltu50 := Nat.lt_of_lt_of_le ltu40 ggu5); (try have ltu51 := Nat.lt_of_lt_of_le ggu4 ggu5); clear hb xx0 xx1 xz; have xx0 := yy0; have xx1 := yy1; have xz := yz; clear yy0 yy1 yz))
            all_goals
              go_wp2_with fail
              go_meet
              refine ⟨_, rfl, rfl, ?_, ?_, ?_, Lib.hid ?_⟩
              all_goals first | assumption | (simp [*, go_sem]; done) | omega | (simp; done) | (simp; omega) | (repeat' (first | exact Ku5.out | (with_reducible refine bdn ?_ _) | (with_reducible refine Below.drew ?_) | (with_reducible refine Below.alloc ?_ ?_ _) | (with_reducible refine Below.setCell ?_ ?_ _) | assumption | omega | (simp; done) | (simp; omega)))
          case rest =>
            obtain ⟨BC, rfl, rfl, ba0, ba1, ba2, EC⟩ := hcut
            clear xx0 xx1 xz
            have SC := Lib.hid (SB.out.below EC.out); have FC := Lib.hid (FB.out.trans (EC.out.mono FB.out.size)); have LC := Lib.hid (Held.more ba0 ba1 ba2 (LB.out.below EC.out))
            clear ba0 ba1 ba2 EC
            obtain ⟨ba0, ba1, ba2⟩ := LC.out.get (n := BA) (a := rn) (b := rd) (by simp)
            obtain ⟨bb0, bb1, bb2⟩ := LC.out.get (n := BB) (a := rn) (b := rd) (by simp)
            go_wp2_with fail
            refine (same_yes rn rd r _).mono ?_; rintro e v1 ⟨rfl, hb⟩
            have X1L := Lib.hid (LC.out.below hb); have X1S := Lib.hid (SC.out.below hb); have X1F := Lib.hid (FC.out.trans (hb.mono FC.out.size)); clear hb
            clear ba0 ba1 ba2 bb0 bb1 bb2
            obtain ⟨ba0, ba1, ba2⟩ := X1L.out.get (n := BA) (a := rn) (b := rd) (by simp)
            obtain ⟨bc0, bc1, bc2⟩ := X1L.out.get (n := BC) (a := rn) (b := rd) (by simp)
            go_wp2_with fail
            refine (same_yes rn rd r _).mono ?_; rintro e v2 ⟨rfl, hb⟩
            have X2L := Lib.hid (X1L.out.below hb); have X2S := Lib.hid (X1S.out.below hb); have X2F := Lib.hid (X1F.out.trans (hb.mono X1F.out.size)); clear hb
            clear ba0 ba1 ba2 bc0 bc1 bc2
            obtain ⟨ba0, ba1, ba2⟩ := X2L.out.get (n := BA) (a := rn) (b := rd) (by simp)
            go_wp2_with fail
            refine (rightT rn rd RR.out _).mono ?_; rintro e v3 ⟨rfl, hb⟩
            have X3L := Lib.hid (X2L.out.below hb); have X3S := Lib.hid (X2S.out.below hb); have X3F := Lib.hid (X2F.out.trans (hb.mono X2F.out.size)); clear hb
            clear ba0 ba1 ba2
            go_wp2_with fail
            refine (of_any n _).mono ?_; rintro e v4 ⟨rfl, hb⟩
            have X4L := Lib.hid (X3L.out.below hb); have X4S := Lib.hid (X3S.out.below hb); have X4F := Lib.hid (X3F.out.trans (hb.mono X3F.out.size)); clear hb
            go_wp2
            case roundEnd => exact ⟨⟨3, by decide, by simp, X4S, X4F⟩, by simp [intOf]⟩
    · skip
      go_wp2
      go_ret
      exact ⟨rfl, E2.out⟩
end Go.Proofs.YtokmfgpbfhfafaaDoor
