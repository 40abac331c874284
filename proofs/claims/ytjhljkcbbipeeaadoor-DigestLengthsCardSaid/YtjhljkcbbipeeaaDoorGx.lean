/- The laws: repeated, DigestLengths. -/
import Derived.Test.YtjhljkcbbipeeaaDoorGw
namespace Go.Proofs.YtjhljkcbbipeeaaDoor
open Go.RowKit

/-- The bytes of 'repeated' when i of them are there. -/
def repN (c : Int) (n : Nat) : Nat → List Int
  | 0 => List.replicate n 0
  | i + 1 => (repN c n i).set i ((c + (i : Int) / 100) % 256)
theorem repN_length (c : Int) (n i : Nat) : (repN c n i).length = n := by
  induction i with
  | zero => simp [repN]
  | succ i ih => simp [repN, ih]
theorem made_row0 {w w0 : World} {n : Nat} (h : w0.ownsRow w.heap.size 5 1 (.slice (some ⟨w.heap.size, 0, none⟩) n n) n (madeCells (Value.int .u8 0).cells (n * 1)).toList) (hg : w.grownBy w0 none) :
    Hid (RowB .u8 w0 w.heap.size (List.replicate n 0)) ∧ Hid (Below w.heap.size w w0) :=
  ⟨Lib.hid (made_row h), Lib.hid ((Below.refl _ w).grown hg (Nat.le_refl _) (fun _ h => by cases h))⟩

set_option maxRecDepth 100000 in
set_option maxHeartbeats 1000000 in
theorem repeated_c (c : Int) (n : Nat) (hn : n ≤ 1000) (w : World) :
    Calls Tryd.prog 14 #[.int .u8 c, .int .i64 (n : Int)] w fun e w' => e = .returned (.string (strOfNums (repN c n n))) ∧ Below w.heap.size w w' := by
  obtain ⟨i0, hi, hz0, hz1, hz2⟩ := info_parts infoU8
  obtain ⟨x, hx⟩ : ∃ x, strOfNums (repN c n n) = x := ⟨_, rfl⟩
  have HX := Lib.hid hx
  rw [hx]
  clear hx
  go_enter Tryd.func14, Tryd.ntmps14
  go_wp2_with (at_make; refine wpList_make_full _ rfl _ _ 36 rfl w.heap.size 5 i0 (.int .u8 0) 1 Tryd.underlying36 hi hz0 hz1 .i64 .i64 _ _ n rfl rfl (by first | rfl | omega) (by first | rfl | omega) (by rw [hz2]; omega) (by unfold maxLen; omega) (Nat.le_refl _) ?_; intro w0 hown0 hgrow0; obtain ⟨hR1, hB0⟩ := made_row0 hown0 hgrow0; clear hown0 hgrow0)
  go_loopw [6] (fun i wr => ∃ j : Nat, j ≤ n ∧ i = .int .i64 j ∧ Hid (RowB .u8 wr w.heap.size (repN c n j)) ∧ Hid (Below w.heap.size w wr)) (fun i _ => n - (intOf i).toNat)
  case atStart => exact ⟨0, by omega, rfl, hR1, hB0⟩
  clear hR1 hB0
  case round =>
    obtain ⟨j, hj, rfl, hR, hB⟩ := hrel
    by_cases hlt : j < n
    · have hc := (hR.out j (by rw [repN_length]; exact hlt)).1
      have hf := (hR.out j (by rw [repN_length]; exact hlt)).2
      have HLT := Lib.hid hlt
      go_wp2
      go_roundw
      case rel =>
        refine ⟨j + 1, HLT.out, by go_num, Lib.hid ?_, Lib.hid (hB.out.setCell (Nat.le_refl _) _)⟩
        rw [repN]
        exact hR.out.set j _ (by rw [repN_length]; exact HLT.out)
      case measure => have := HLT.out; simp only [intOf]; omega
    · obtain rfl : j = n := by omega
      have hS := hR.out.str (P := Tryd.prog) (cap := j) (repN_length c j j) 36 9 5 (by kernel_rfl) (by kernel_rfl) (by kernel_rfl)
      rw [HX.out] at hS
      go_wp2
      go_ret
      exact ⟨rfl, hB.out⟩

theorem repeated_size (c : Int) (n : Nat) : (strOfNums (repN c n n)).size = n := by rw [strOfNums_size, repN_length]

set_option maxRecDepth 100000 in
set_option maxHeartbeats 1000000 in
theorem digestLengths_c (c n far : Int) (_ : 0 ≤ c ∧ c ≤ 255) (_ : -9223372036854775808 ≤ n ∧ n ≤ 9223372036854775807) (_ : -9223372036854775808 ≤ far ∧ far ≤ 9223372036854775807) (w : World) (ht : Tabs w) :
    Calls Tryd.prog 4 #[.int .u8 c, .int .i64 n, .int .i64 far] w fun e w' => e = .returned (.bool true) ∧ Below w.heap.size w w' := by
  have HT := Lib.hid ht
  clear ht
  have q0 := Int.emod_nonneg n (b := 300) (by decide)
  have q1 := Int.emod_lt_of_pos n (b := 300) (by decide)
  have q2 := Int.emod_nonneg n (b := 4) (by decide)
  have q3 := Int.emod_lt_of_pos n (b := 4) (by decide)
  have q4 := Int.emod_nonneg far (b := 20) (by decide)
  have q5 := Int.emod_lt_of_pos far (b := 20) (by decide)
  have M1 := Lib.hid (fun w' => mod_any n 300 (by decide) (by decide) w')
  have M2 := Lib.hid (fun w' => mod_any n 4 (by decide) (by decide) w')
  have M3 := Lib.hid (fun w' => mod_any far 20 (by decide) (by decide) w')
  obtain ⟨a, ha⟩ : ∃ a : Nat, n % 300 = (a : Int) := ⟨(n % 300).toNat, by omega⟩
  obtain ⟨b, hb⟩ : ∃ b : Nat, n % 4 = (b : Int) := ⟨(n % 4).toNat, by omega⟩
  obtain ⟨d, hd⟩ : ∃ d : Nat, far % 20 = (d : Int) := ⟨(far % 20).toNat, by omega⟩
  rw [ha] at q0 q1 M1; rw [hb] at q2 q3 M2; rw [hd] at q4 q5 M3
  have RA := Lib.hid (fun w' => repeated_c c a (by omega) w')
  have RB := Lib.hid (fun w' => repeated_c c (64 * b + 50 + d) (by omega) w')
  have za := repeated_size c a
  have zb := repeated_size c (64 * b + 50 + d)
  obtain ⟨x, hx⟩ : ∃ x, strOfNums (repN c a a) = x := ⟨_, rfl⟩
  obtain ⟨y, hy⟩ : ∃ y, strOfNums (repN c (64 * b + 50 + d) (64 * b + 50 + d)) = y := ⟨_, rfl⟩
  rw [hx] at za RA; rw [hy] at zb RB
  obtain ⟨cs, C1, C2, hq⟩ := sum_pack x (by omega)
  obtain ⟨ds, D1, D2, hr⟩ := sum_pack y (by omega)
  have e0 : ((64 * b + 50 + d : Nat) : Int) = 64 * (b : Int) + 50 + (d : Int) := by omega
  have RB' := RB.out
  rw [e0] at RB'
  have RC := Lib.hid RB'
  clear ha hb hd hx hy za zb RB RB' e0
  go_enter Tryd.func4, Tryd.ntmps4
  go_wp2_with fail
  refine (sanity_c _ HT.out).mono ?_; rintro e w1 ⟨rfl, hb⟩
  have B1 := Lib.hid hb; clear hb
  go_wp2_with fail
  refine (M1.out _).mono ?_; rintro e w2 ⟨rfl, rfl⟩
  go_wp2_with fail
  refine (RA.out _).mono ?_; rintro e w3 ⟨rfl, hb⟩
  have B3 := Lib.hid (B1.out.trans (hb.mono B1.out.size)); clear hb
  go_wp2_with fail
  refine (M2.out _).mono ?_; rintro e w4 ⟨rfl, rfl⟩
  go_wp2_with fail
  refine (M3.out _).mono ?_; rintro e w5 ⟨rfl, rfl⟩
  go_wp2_with fail
  refine (RC.out _).mono ?_; rintro e w6 ⟨rfl, hb⟩
  have B6 := Lib.hid (B3.out.trans (hb.mono B3.out.size)); clear hb
  go_wp2_with fail
  refine (C1.out _ (HT.out.below B6.out)).mono ?_; rintro e w7 ⟨rfl, hb⟩
  have B7 := Lib.hid (B6.out.trans (hb.mono B6.out.size)); clear hb
  go_wp2_with fail
  refine (C2.out _).mono ?_; rintro e w8 ⟨rfl, hb⟩
  have B8 := Lib.hid (B7.out.trans (hb.mono B7.out.size)); clear hb
  go_wp2_with fail
  refine (D1.out _ (HT.out.below B8.out)).mono ?_; rintro e w9 ⟨rfl, hb⟩
  have B9 := Lib.hid (B8.out.trans (hb.mono B8.out.size)); clear hb
  go_wp2_with fail
  refine (D2.out _).mono ?_; rintro e w10 ⟨rfl, hb⟩
  have B10 := Lib.hid (B9.out.trans (hb.mono B9.out.size)); clear hb
  go_wp2_with fail
  go_ret
  exact ⟨rfl, B10.out⟩
end Go.Proofs.YtjhljkcbbipeeaaDoor
