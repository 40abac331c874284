/- The laws: Mod, repeated; DigestChains, DigestLengths. -/
import Derived.Test.YtjhljkcbbipeeaaDoorGt
namespace Go.Proofs.YtjhljkcbbipeeaaDoor
open Go.RowKit

theorem tmod_tmod (n m : Int) (hm : 0 < m) : (n.tmod m + m).tmod m = n % m ∧ -m < n.tmod m ∧ n.tmod m < m := by
  have h1 := Int.tmod_lt_of_pos n hm
  have h2 : -m < n.tmod m := by
    have := Int.tmod_lt_of_pos (-n) hm
    rw [Int.neg_tmod] at this; omega
  refine ⟨?_, h2, h1⟩
  rw [Int.tmod_eq_emod_of_nonneg (by omega)]
  have e : n.tmod m = n - m * n.tdiv m := by have := Int.mul_tdiv_add_tmod n m; omega
  rw [e]
  have : n - m * n.tdiv m + m = n + m * (1 - n.tdiv m) := by grind
  rw [this, Int.add_mul_emod_self_left]

theorem mod_any (n m : Int) (hm : 0 < m) (hm2 : m ≤ 1000000) (w : World) :
    Calls Tryd.prog 15 #[.int .i64 n, .int .i64 m] w fun e w' => e = .returned (.int .i64 (n % m)) ∧ w' = w := by
  obtain ⟨e, l, u⟩ := tmod_tmod n m hm
  have z0 : ¬ m = 0 := by omega
  obtain ⟨t, ht⟩ : ∃ t, n.tmod m = t := ⟨_, rfl⟩
  rw [ht] at e l u
  have b0 := Int.emod_nonneg n (b := m) z0
  have b1 := Int.emod_lt_of_pos n hm
  have z1 : IntKind.i64.wrap t = t := by rw [IntKind.wrap_i64]; omega
  have z2 : IntKind.i64.wrap (t + m) = t + m := by rw [IntKind.wrap_i64]; omega
  have z3 : IntKind.i64.wrap (n % m) = n % m := by rw [IntKind.wrap_i64]; omega
  go_enter Tryd.func15, Tryd.ntmps15
  go_wp2
  go_ret
  exact ⟨rfl, rfl⟩


/-- One link of a chain: the text of the hash, on both sides. -/
theorem link_pack (x : ByteArray) (hx : x.size ≤ 100000) : ∃ (cs : Array Value) (y : ByteArray), y.size ≤ 100000 ∧
    Hid (∀ w', Tabs w' → Calls Tryd.prog 12 #[.string x] w' fun e w'' => e = .returned (.agg cs) ∧ Below w'.heap.size w' w'') ∧
    Hid (∀ w', Calls Tryd.prog 13 #[.string x] w' fun e w'' => e = .returned (.agg cs) ∧ Below w'.heap.size w' w'') ∧
    Hid (∀ w', Calls Tryd.prog 16 #[.agg cs] w' fun e w'' => e = .returned (.string y) ∧ Below w'.heap.size w' w'') ∧
    Hid (∀ w', Calls Tryd.prog 17 #[.agg cs] w' fun e w'' => e = .returned (.string y) ∧ Below w'.heap.size w' w'') :=
  ⟨((Sha.sum x).map (Value.int .u8)).toArray, Sha.text (Sha.sum x), by rw [Sha.text_size]; omega, Lib.hid (fun w' h => sum_c x (by omega) w' h), Lib.hid (fun w' => refSum_c x (by omega) w'),
    Lib.hid (fun w' => text_c (Sha.sum x) (Sha.sum_hash x) w'), Lib.hid (fun w' => refText_c (Sha.sum x) (Sha.sum_hash x) w')⟩

set_option maxRecDepth 100000 in
set_option maxHeartbeats 1000000 in
theorem digestChains_c (s : ByteArray) (many : Int) (hm : -9223372036854775808 ≤ many ∧ many ≤ 9223372036854775807) (w : World) (ht : Tabs w) :
    Calls Tryd.prog 5 #[.string s, .int .i64 many] w fun e w' => e = .returned (.bool true) ∧ Below w.heap.size w w' := by
  have HT := Lib.hid ht
  clear ht hm
  have q0 := Int.emod_nonneg many (b := 20) (by decide)
  have q1 := Int.emod_lt_of_pos many (b := 20) (by decide)
  have CM := Lib.hid (fun w' => mod_any many 20 (by decide) (by decide) w')
  obtain ⟨r, hr⟩ : ∃ r, many % 20 = r := ⟨_, rfl⟩
  rw [hr] at q0 q1 CM
  clear hr
  by_cases h : (s.size : Int) ≤ 100
  all_goals
    go_enter Tryd.func5, Tryd.ntmps5
    go_wp2_with fail
    refine (sanity_c _ HT.out).mono ?_; rintro e w1 ⟨rfl, hb⟩
    have B1 := Lib.hid hb; clear hb
    go_wp2_with fail
    go_loopw [6, 7, 8] (fun x y i wr => ∃ (n : Int) (z : ByteArray), 0 ≤ n ∧ n ≤ r ∧ i = .int .i64 n ∧ x = .string z ∧ y = .string z ∧ Hid (z.size ≤ 100000) ∧ Hid (Below w.heap.size w wr)) (fun _ _ i _ => (r - intOf i).toNat)
    case atStart => exact ⟨0, _, by omega, q0, rfl, rfl, rfl, Lib.hid (by first | omega | (simp; omega)), B1⟩
    clear B1
    case round =>
      obtain ⟨n, z, h0, hn, rfl, rfl, rfl, hz, hB⟩ := hrel
      obtain ⟨cs, y, hy, C1, C2, C3, C4⟩ := link_pack z hz.out
      have HY := Lib.hid hy
      clear hy hz
      by_cases hlt : n < r
      · go_wp2_with fail
        refine (CM.out _).mono ?_; rintro e w2 ⟨rfl, rfl⟩
        go_wp2_with fail
        refine (C1.out _ (HT.out.below hB.out)).mono ?_; rintro e w3 ⟨rfl, hb⟩
        have B3 := Lib.hid (hB.out.trans (hb.mono hB.out.size)); clear hb
        go_wp2_with fail
        refine (C3.out _).mono ?_; rintro e w4 ⟨rfl, hb⟩
        have B4 := Lib.hid (B3.out.trans (hb.mono B3.out.size)); clear hb
        go_wp2_with fail
        refine (C2.out _).mono ?_; rintro e w5 ⟨rfl, hb⟩
        have B5 := Lib.hid (B4.out.trans (hb.mono B4.out.size)); clear hb
        go_wp2_with fail
        refine (C4.out _).mono ?_; rintro e w6 ⟨rfl, hb⟩
        have B6 := Lib.hid (B5.out.trans (hb.mono B5.out.size)); clear hb
        go_wp2_with fail
        exact ⟨⟨n + 1, y, by omega, by omega, rfl, rfl, rfl, HY, B6⟩, by simp only [intOf]; omega⟩
      · go_wp2_with fail
        refine (CM.out _).mono ?_; rintro e w2 ⟨rfl, rfl⟩
        go_wp2_with fail
        go_ret
        exact ⟨rfl, hB.out⟩
end Go.Proofs.YtjhljkcbbipeeaaDoor
