/-
  The texts of ratio.
-/
import Derived.Test.YtnccllelmbcdcaaGreatDoorWp
import Derived.Lib.ItoaNum
import Derived.Lib.ItoaLen
import Derived.Lib.AppendIntMem
import Derived.Lib.Strings
namespace Go.Proofs.YtnccllelmbcdcaaGreatDoor
open Go.RowKit

/-- The table that the library's Itoa reads. -/
def Tab (w : World) : Prop := Lib.TabIs Tryz.prog w "internal/strconv.uint64pow10" .u64 Lib.pow10Tab
theorem tab_block : Tryz.prog.globalNamed "internal/strconv.uint64pow10" = some 5 := by kernel_rfl
theorem Tab.lt {w : World} (h : Tab w) : 5 < w.heap.size := by
  unfold Tab Lib.TabIs World.var? at h
  simp only [tab_block, Option.bind_some] at h
  by_cases hl : 5 < w.heap.size
  · exact hl
  · rw [Array.getElem?_eq_none (by omega)] at h; simp at h
theorem Tab.below {w w' : World} (h : Tab w) (hb : Below w.heap.size w w') : Tab w' := var?_below hb tab_block h.lt h

theorem itoa_any (n : Int) (h : I64 n) (w : World) (ht : Tab w) :
    Calls Tryz.prog 35 #[.int .i64 n] w fun e w' => e = .returned (.string ⟨(Lib.itoa n).toArray⟩) ∧ Below w.heap.size w w' :=
  (Tryz.strconv_Itoa n h.1 h.2 w ht).mono fun _ _ ⟨he, k, os, hw⟩ => ⟨he, hw ▸ Lib.below_grow _ w (Nat.le_refl _) k os⟩

set_option maxHeartbeats 1000000 in
theorem text_no (a b : Int) (hr : ∀ w, Calls Tryz.prog 31 #[ratV a b] w fun e w' => e = .returned (.bool false) ∧ ∃ nq, w' = (w.alloc (.cells #[.int .i64 a, .int .i64 b] 25)).drewN nq) (w : World) :
    Calls Tryz.prog 9 #[ratV a b] w fun e w' => e = .returned (.string ⟨#[]⟩) ∧ Below w.heap.size w w' := by
  have R := Lib.hid hr; clear hr
  go_enter Tryz.func9, Tryz.ntmps9
  go_wp2_with fail
  refine (R.out _).mono ?_; rintro e w' ⟨rfl, nq, rfl⟩
  go_wp2
  go_ret
  exact ⟨rfl, by (repeat' (first | (with_reducible exact Below.refl _ _) | (with_reducible assumption) | (with_reducible refine bdn ?_ _) | (with_reducible refine Below.drew ?_) | (with_reducible refine Below.alloc ?_ ?_ _) | (with_reducible refine Below.setCell ?_ ?_ _) | go_size))⟩

set_option maxHeartbeats 1000000 in
theorem text_one (a b : Int) (s : ByteArray) (hr : ∀ w, Calls Tryz.prog 31 #[ratV a b] w fun e w' => e = .returned (.bool true) ∧ ∃ nq, w' = (w.alloc (.cells #[.int .i64 a, .int .i64 b] 25)).drewN nq) (hb : (b == 1) = true) (w : World)
    (c1 : ∀ w', Below w.heap.size w w' → Calls Tryz.prog 35 #[.int .i64 a] w' fun e w'' => e = .returned (.string s) ∧ Below w'.heap.size w' w'') :
    Calls Tryz.prog 9 #[ratV a b] w fun e w' => e = .returned (.string s) ∧ Below w.heap.size w w' := by
  have R := Lib.hid hr; have C1 := Lib.hid c1; clear hr c1
  go_enter Tryz.func9, Tryz.ntmps9
  go_wp2_with fail
  refine (R.out _).mono ?_; rintro e w' ⟨rfl, nq, rfl⟩
  go_wp2_with fail
  refine (C1.out _ (by (repeat' (first | (with_reducible exact Below.refl _ _) | (with_reducible assumption) | (with_reducible refine bdn ?_ _) | (with_reducible refine Below.drew ?_) | (with_reducible refine Below.alloc ?_ ?_ _) | (with_reducible refine Below.setCell ?_ ?_ _) | go_size)))).mono ?_; rintro e w1 ⟨rfl, hb1⟩
  have hB1 := hb1.mono (B' := w.heap.size) (by simp; omega); clear hb1
  go_wp2
  go_ret
  exact ⟨rfl, by refine Below.trans ?_ hB1; (repeat' (first | (with_reducible exact Below.refl _ _) | (with_reducible assumption) | (with_reducible refine bdn ?_ _) | (with_reducible refine Below.drew ?_) | (with_reducible refine Below.alloc ?_ ?_ _) | (with_reducible refine Below.setCell ?_ ?_ _) | go_size))⟩

set_option maxHeartbeats 4000000 in
theorem text_two (a b : Int) (s t : ByteArray) (hs : s.size ≤ 100) (ht : t.size ≤ 100) (hr : ∀ w, Calls Tryz.prog 31 #[ratV a b] w fun e w' => e = .returned (.bool true) ∧ ∃ nq, w' = (w.alloc (.cells #[.int .i64 a, .int .i64 b] 25)).drewN nq) (hb : (b == 1) = false) (w : World)
    (c1 : ∀ w', Below w.heap.size w w' → Calls Tryz.prog 35 #[.int .i64 a] w' fun e w'' => e = .returned (.string s) ∧ Below w'.heap.size w' w'')
    (c2 : ∀ w', Below w.heap.size w w' → Calls Tryz.prog 35 #[.int .i64 b] w' fun e w'' => e = .returned (.string t) ∧ Below w'.heap.size w' w'') :
    Calls Tryz.prog 9 #[ratV a b] w fun e w' => e = .returned (.string (s ++ ⟨#[47]⟩ ++ t)) ∧ Below w.heap.size w w' := by
  have R := Lib.hid hr; have C1 := Lib.hid c1; have C2 := Lib.hid c2; clear hr c1 c2
  have k1 : ∀ w, (Op.stringOp .add s ⟨#[47]⟩).run Tryz.prog w = .ok (.string (s ++ ⟨#[47]⟩)) w := fun w => run_string_add_sum w _ _ (by have : (⟨#[47]⟩ : ByteArray).size = 1 := rfl; omega)
  have k2 : ∀ w, (Op.stringOp .add (s ++ ⟨#[47]⟩) t).run Tryz.prog w = .ok (.string (s ++ ⟨#[47]⟩ ++ t)) w := fun w => run_string_add_sum w _ _ (by have : (⟨#[47]⟩ : ByteArray).size = 1 := rfl; rw [ByteArray.size_append']; omega)
  clear hs ht
  go_enter Tryz.func9, Tryz.ntmps9
  go_wp2_with fail
  refine (R.out _).mono ?_; rintro e w' ⟨rfl, nq, rfl⟩
  go_wp2_with fail
  go_region_held3 (fun w' => w'.cell? ⟨w.heap.size, 0, none⟩ = some (.int .i64 a) ∧ w'.cell? ⟨w.heap.size, 1, none⟩ = some (.int .i64 b)) (simp [*, go_sem, World.cell?_alloc_past])
    (first
      | (go_at_call_of 35 (Value.int IntKind.i64 a); refine (C1.out _ (by (repeat' (first | (with_reducible exact Below.refl _ _) | (with_reducible assumption) | (with_reducible refine bdn ?_ _) | (with_reducible refine Below.drew ?_) | (with_reducible refine Below.alloc ?_ ?_ _) | (with_reducible refine Below.setCell ?_ ?_ _) | go_size)))).mono ?_; rintro e w1 ⟨rfl, hb1⟩; have e1 := bk hb1 w.heap.size 0 (v := .int .i64 a) (by simp [*, go_sem]) (by simp; omega); have e2 := bk hb1 w.heap.size 1 (v := .int .i64 b) (by simp [*, go_sem]) (by simp; omega); have e3 := bs (n := w.heap.size) hb1 (by simp; omega); have hB1 := hb1.mono (B' := w.heap.size) (by simp; omega); clear hb1)
      | (go_at_call_of 35 (Value.int IntKind.i64 b); refine (C2.out _ (by refine Below.trans ?_ hB1; (repeat' (first | (with_reducible exact Below.refl _ _) | (with_reducible assumption) | (with_reducible refine bdn ?_ _) | (with_reducible refine Below.drew ?_) | (with_reducible refine Below.alloc ?_ ?_ _) | (with_reducible refine Below.setCell ?_ ?_ _) | go_size)))).mono ?_; rintro e w2 ⟨rfl, hb2⟩; have f1 := bk hb2 w.heap.size 0 (v := .int .i64 a) (by simp [*, go_sem]) (by omega); have f2 := bk hb2 w.heap.size 1 (v := .int .i64 b) (by simp [*, go_sem]) (by omega); have hB2 := hb2.mono (B' := w.heap.size) (by omega); clear hb2))
  all_goals
    go_wp2
    go_ret
    exact ⟨rfl, by refine Below.trans (Below.trans ?_ hB1) hB2; (repeat' (first | (with_reducible exact Below.refl _ _) | (with_reducible assumption) | (with_reducible refine bdn ?_ _) | (with_reducible refine Below.drew ?_) | (with_reducible refine Below.alloc ?_ ?_ _) | (with_reducible refine Below.setCell ?_ ?_ _) | go_size))⟩

/-- The text of a number. -/
def textL (a b : Int) : List UInt8 := if Num.rtB a b then (if b = 1 then Lib.itoa a else Lib.itoa a ++ [47] ++ Lib.itoa b) else []

theorem text_any (a b : Int) (ha : I64 a) (hb : I64 b) (w : World) (ht : Tab w) :
    Calls Tryz.prog 9 #[ratV a b] w fun e w' => e = .returned (.string ⟨(textL a b).toArray⟩) ∧ Below w.heap.size w w' := by
  have la := Lib.itoa_length_le a ha.1 ha.2
  have lb := Lib.itoa_length_le b hb.1 hb.2
  unfold textL
  cases r1 : Num.rtB a b
  · exact text_no a b (fun w => right_not a b ha hb r1 w) w
  simp only [if_true]
  by_cases h1 : b = 1
  · rw [if_pos h1]
    exact text_one a b _ (fun w => right_yes a b ha hb r1 w) (by simp [h1]) w (fun w' hw => itoa_any a ha w' (ht.below hw))
  · rw [if_neg h1]
    have := text_two a b ⟨(Lib.itoa a).toArray⟩ ⟨(Lib.itoa b).toArray⟩ (by simp [ByteArray.size]; omega) (by simp [ByteArray.size]; omega) (fun w => right_yes a b ha hb r1 w) (by simp [h1]) w (fun w' hw => itoa_any a ha w' (ht.below hw)) (fun w' hw => itoa_any b hb w' (ht.below hw))
    have e : (⟨(Lib.itoa a).toArray⟩ ++ ⟨#[47]⟩ ++ ⟨(Lib.itoa b).toArray⟩ : ByteArray) = ⟨(Lib.itoa a ++ [47] ++ Lib.itoa b).toArray⟩ := by
      rw [← ByteArray.mk_append_mk, ← ByteArray.mk_append_mk]
    rw [e] at this; exact this

/-- A variable of the library's that strings.Cut reads holds an int. -/
def Max (w : World) : Prop := ∃ m : Int, w.cell? ⟨0, 0, none⟩ = some (.int .i64 m)
theorem Max.below {w w' : World} (h : Max w) (hb : Below w.heap.size w w') : Max w' := by
  obtain ⟨m, hm⟩ := h
  exact ⟨m, bk hb _ _ hm (World.block_lt_of_cell? w ⟨_, 0, none⟩ hm)⟩

theorem cut_any (s : ByteArray) (hs : s.size < 4294967281) (w : World) (hm : Max w) :
    Calls Tryz.prog 36 #[.string s, .string ⟨#[47]⟩] w fun e w' => e = .returned (.tuple #[.string ⟨(Lib.cut s.data.toList [47]).1.toArray⟩, .string ⟨(Lib.cut s.data.toList [47]).2.1.toArray⟩, .bool (Lib.cut s.data.toList [47]).2.2]) ∧ Below w.heap.size w w' := by
  obtain ⟨m, hm⟩ := hm
  exact (Tryz.strings_Cut s ⟨#[47]⟩ m w hs hm).mono fun _ _ ⟨he, n, hw⟩ => ⟨he, hw ▸ bdn (Below.refl _ _) n⟩

theorem atoi_ok (s : ByteArray) (hs : s.size ≤ 9223372036854775806) (v : Int) (h : Lib.atoiAll s.data.toList = .ok v) (w : World) :
    Calls Tryz.prog 37 #[.string s] w fun e w' => e = .returned (.tuple #[.int .i64 v, .nilIface]) ∧ Below w.heap.size w w' :=
  (Tryz.strconv_Atoi_ok s hs v h w).mono fun _ _ ⟨he, hw⟩ => ⟨he, by
    rcases hw with rfl | ⟨t, rfl⟩
    · exact Below.refl _ _
    · exact Lib.bytesWorld_below w _ t⟩

set_option maxHeartbeats 2000000 in
theorem parse_raw (s n d t : ByteArray) (a b : Int) (ok : Bool) (hok : (t.toList == s.toList) = ok) (w : World)
    (c1 : ∀ w', Below w.heap.size w w' → Calls Tryz.prog 36 #[.string s, .string ⟨#[47]⟩] w' fun e w'' => e = .returned (.tuple #[.string n, .string d, .bool true]) ∧ Below w'.heap.size w' w'')
    (c2 : ∀ w', Calls Tryz.prog 37 #[.string n] w' fun e w'' => e = .returned (.tuple #[.int .i64 a, .nilIface]) ∧ Below w'.heap.size w' w'')
    (c3 : ∀ w', Calls Tryz.prog 37 #[.string d] w' fun e w'' => e = .returned (.tuple #[.int .i64 b, .nilIface]) ∧ Below w'.heap.size w' w'')
    (c4 : ∀ w', Below w.heap.size w w' → Calls Tryz.prog 9 #[ratV a b] w' fun e w'' => e = .returned (.string t) ∧ Below w'.heap.size w' w'') :
    Calls Tryz.prog 10 #[.string s] w fun e w' => e = .returned (.tuple #[ratV (if ok then a else 0) (if ok then b else 1), .bool ok]) ∧ Below w.heap.size w w' := by
  have C1 := Lib.hid c1; have C2 := Lib.hid c2; have C3 := Lib.hid c3; have C4 := Lib.hid c4; clear c1 c2 c3 c4
  go_enter Tryz.func10, Tryz.ntmps10
  go_wp2_with fail
  refine (C1.out _ (by (repeat' (first | (with_reducible exact Below.refl _ _) | (with_reducible assumption) | (with_reducible refine bdn ?_ _) | (with_reducible refine Below.drew ?_) | (with_reducible refine Below.alloc ?_ ?_ _) | (with_reducible refine Below.setCell ?_ ?_ _) | go_size)))).mono ?_; rintro e w1 ⟨rfl, hb1⟩
  obtain ⟨pa, pb, pc, pd, pe⟩ := box2 hb1 (w.heap.size) (a := .int .i64 0) (b := .int .i64 0) (by first | assumption | (simp [go_sem]; done) | omega | (simp; omega)) (by first | assumption | (simp [go_sem]; done) | omega | (simp; omega)) (by first | assumption | (simp [go_sem]; done) | omega | (simp; omega)) (by first | assumption | (simp [go_sem]; done) | omega | (simp; omega)) (by first | assumption | (simp [go_sem]; done) | omega | (simp; omega)) (by first | assumption | (simp [go_sem]; done) | omega | (simp; omega))
  have hB1 := hb1.mono (B' := w.heap.size) (by simp); clear hb1
  go_wp2_with fail
  refine (C2.out _).mono ?_; rintro e w2 ⟨rfl, hb2⟩
  obtain ⟨qa, qb, qc, qd, qe⟩ := box2 hb2 (w.heap.size) (a := .int .i64 0) (b := .int .i64 0) (by first | assumption | (simp [go_sem]; done) | omega | (simp; omega)) (by first | assumption | (simp [go_sem]; done) | omega | (simp; omega)) (by first | assumption | (simp [go_sem]; done) | omega | (simp; omega)) (by first | assumption | (simp [go_sem]; done) | omega | (simp; omega)) (by first | assumption | (simp [go_sem]; done) | omega | (simp; omega)) (by first | assumption | (simp [go_sem]; done) | omega | (simp; omega))
  have hB2 := hb2.mono (B' := w.heap.size) (by omega); clear hb2
  go_wp2_with fail
  refine (C3.out _).mono ?_; rintro e w3 ⟨rfl, hb3⟩
  obtain ⟨ra, rb, rc, rd, re⟩ := box2 hb3 (w.heap.size) (a := .int .i64 0) (b := .int .i64 0) (by first | assumption | (simp [go_sem]; done) | omega | (simp; omega)) (by first | assumption | (simp [go_sem]; done) | omega | (simp; omega)) (by first | assumption | (simp [go_sem]; done) | omega | (simp; omega)) (by first | assumption | (simp [go_sem]; done) | omega | (simp; omega)) (by first | assumption | (simp [go_sem]; done) | omega | (simp; omega)) (by first | assumption | (simp [go_sem]; done) | omega | (simp; omega))
  have hB3 := hb3.mono (B' := w.heap.size) (by omega); clear hb3
  go_wp2_with fail
  refine (C4.out _ (by refine Below.alloc (Below.trans (Below.trans (Below.trans ?_ hB1) hB2) hB3) ?_ _ <;> (repeat' (first | (with_reducible exact Below.refl _ _) | (with_reducible assumption) | (with_reducible refine bdn ?_ _) | (with_reducible refine Below.drew ?_) | (with_reducible refine Below.alloc ?_ ?_ _) | (with_reducible refine Below.setCell ?_ ?_ _) | go_size)))).mono ?_; rintro e w4 ⟨rfl, hb4⟩
  obtain ⟨sa, sb, sc, sd, se⟩ := box2 hb4 w.heap.size (a := .int .i64 0) (b := .int .i64 0) (by simp [*, go_sem]) (by simp [*, go_sem]) (by simp [*, go_sem]) (by simp [*, go_sem]) (by simp; omega) (by simp; omega)
  obtain ⟨ta, tb, tc, td, te⟩ := box2 hb4 w3.heap.size (a := .int .i64 a) (b := .int .i64 b) (by simp [*, go_sem]) (by simp [*, go_sem]) (by simp [*, go_sem]) (by simp [*, go_sem]) (by simp) (by simp)
  have hB4 := hb4.mono (B' := w.heap.size) (by simp; omega); clear hb4
  cases ok
  · have hne : (t.toList == s.toList) = false := hok
    clear hok
    go_wp2_with fail
    refine (noNumber_any _).mono ?_; rintro e w5 ⟨rfl, hb5⟩
    obtain ⟨ua, ub, uc, ud, ue⟩ := box2 hb5 (w.heap.size) (a := .int .i64 0) (b := .int .i64 0) (by first | assumption | (simp [go_sem]; done) | omega | (simp; omega)) (by first | assumption | (simp [go_sem]; done) | omega | (simp; omega)) (by first | assumption | (simp [go_sem]; done) | omega | (simp; omega)) (by first | assumption | (simp [go_sem]; done) | omega | (simp; omega)) (by first | assumption | (simp [go_sem]; done) | omega | (simp; omega)) (by first | assumption | (simp [go_sem]; done) | omega | (simp; omega))
    have hB5 := hb5.mono (B' := w.heap.size) (by omega); clear hb5
    go_wp2
    refine bodyPost_ret (v := .tuple #[ratV 0 1, .bool false]) (by simp [results, Tryz.results10, go_sem, ua, ub]) rfl ⟨rfl, ?_⟩
    refine Below.setCell (Below.setCell (Below.trans (Below.trans (Below.alloc (Below.trans (Below.trans (Below.trans ?_ hB1) hB2) hB3) ?_ _) hB4) hB5) ?_ _) ?_ _ <;> (repeat' (first | (with_reducible exact Below.refl _ _) | (with_reducible assumption) | (with_reducible refine bdn ?_ _) | (with_reducible refine Below.drew ?_) | (with_reducible refine Below.alloc ?_ ?_ _) | (with_reducible refine Below.setCell ?_ ?_ _) | go_size))
  · have hne : (t.toList == s.toList) = true := hok
    clear hok
    go_wp2
    refine bodyPost_ret (v := .tuple #[ratV a b, .bool true]) (by simp [results, Tryz.results10, go_sem, sa, sb]) rfl ⟨rfl, ?_⟩
    refine Below.setCell (Below.setCell (Below.trans (Below.alloc (Below.trans (Below.trans (Below.trans ?_ hB1) hB2) hB3) ?_ _) hB4) ?_ _) ?_ _ <;> (repeat' (first | (with_reducible exact Below.refl _ _) | (with_reducible assumption) | (with_reducible refine bdn ?_ _) | (with_reducible refine Below.drew ?_) | (with_reducible refine Below.alloc ?_ ?_ _) | (with_reducible refine Below.setCell ?_ ?_ _) | go_size))
end Go.Proofs.YtnccllelmbcdcaaGreatDoor
