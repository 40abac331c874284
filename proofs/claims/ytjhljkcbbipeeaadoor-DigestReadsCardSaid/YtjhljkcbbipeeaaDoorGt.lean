/- The laws: the chapter's examples; DigestSums. -/
import Derived.Test.YtjhljkcbbipeeaaDoorGr
import Derived.Test.YtjhljkcbbipeeaaDoorGs
import Derived.Test.YtjhljkcbbipeeaaDoorGi
import Derived.Test.YtjhljkcbbipeeaaDoorGl
import Derived.Test.YtjhljkcbbipeeaaDoorGk
namespace Go.Proofs.YtjhljkcbbipeeaaDoor
open Go.RowKit

set_option maxRecDepth 100000 in
set_option maxHeartbeats 1000000 in
theorem sanity_c (w : World) (ht : Tabs w) :
    Calls Tryd.prog 11 #[] w fun e w' => e = .returned (.bool true) ∧ Below w.heap.size w w' := by
  have HT := Lib.hid ht
  clear ht
  have S1 : Hid (∀ w', Tabs w' → Calls Tryd.prog 12 #[.string ⟨#[]⟩] w' fun e w'' => e = .returned (hashV Sha.none32) ∧ Below w'.heap.size w' w'') := Lib.hid (fun w' h => Sha.sum_none ▸ sum_c ⟨#[]⟩ (by decide) w' h)
  have S2 : Hid (∀ w', Tabs w' → Calls Tryd.prog 12 #[.string ⟨#[97, 98, 99]⟩] w' fun e w'' => e = .returned (hashV Sha.abc32) ∧ Below w'.heap.size w' w'') := Lib.hid (fun w' h => Sha.sum_abc ▸ sum_c ⟨#[97, 98, 99]⟩ (by decide) w' h)
  have T1 : Hid (∀ w', Calls Tryd.prog 16 #[hashV Sha.none32] w' fun e w'' => e = .returned (.string _) ∧ Below w'.heap.size w' w'') := Lib.hid (fun w' => Sha.text_none ▸ text_c Sha.none32 (Sha.sum_none ▸ Sha.sum_hash _) w')
  have T2 : Hid (∀ w', Calls Tryd.prog 16 #[hashV Sha.abc32] w' fun e w'' => e = .returned (.string _) ∧ Below w'.heap.size w' w'') := Lib.hid (fun w' => Sha.text_abc ▸ text_c Sha.abc32 (Sha.sum_abc ▸ Sha.sum_hash _) w')
  obtain ⟨l1, e1⟩ : ∃ l, Sha.none32 = l := ⟨_, rfl⟩
  obtain ⟨l2, e2⟩ : ∃ l, Sha.abc32 = l := ⟨_, rfl⟩
  rw [e1] at S1 T1; rw [e2] at S2 T2
  clear e1 e2
  go_enter Tryd.func11, Tryd.ntmps11
  go_wp2_with fail
  refine (S1.out _ HT.out).mono ?_; rintro e w1 ⟨rfl, hb⟩
  have B1 := Lib.hid hb; clear hb
  go_wp2_with fail
  refine (T1.out _).mono ?_; rintro e w2 ⟨rfl, hb⟩
  have B2 := Lib.hid (B1.out.trans (hb.mono B1.out.size)); clear hb
  go_wp2_with fail
  refine (S2.out _ (HT.out.below B2.out)).mono ?_; rintro e w3 ⟨rfl, hb⟩
  have B3 := Lib.hid (B2.out.trans (hb.mono B2.out.size)); clear hb
  go_wp2_with fail
  refine (T2.out _).mono ?_; rintro e w4 ⟨rfl, hb⟩
  have B4 := Lib.hid (B3.out.trans (hb.mono B3.out.size)); clear hb
  go_wp2_with fail
  go_ret
  exact ⟨rfl, B4.out⟩

/-- What the laws take of the hashes of one string. -/
theorem sum_pack (x : ByteArray) (hx : x.size ≤ 100000) : ∃ cs : Array Value,
    Hid (∀ w', Tabs w' → Calls Tryd.prog 12 #[.string x] w' fun e w'' => e = .returned (.agg cs) ∧ Below w'.heap.size w' w'') ∧
    Hid (∀ w', Calls Tryd.prog 13 #[.string x] w' fun e w'' => e = .returned (.agg cs) ∧ Below w'.heap.size w' w'') ∧
    ∀ w', (Op.equalIn 10000 24 (.agg cs) (.agg cs)).run Tryd.prog w' = .ok true w' := by
  refine ⟨((Sha.sum x).map (Value.int .u8)).toArray, Lib.hid (fun w' h => sum_c x (by omega) w' h), Lib.hid (fun w' => refSum_c x (by omega) w'), fun w' => ?_⟩
  have := hash_eq (Sha.sum x) (Sha.sum x) (Sha.sum_hash x).1 (Sha.sum_hash x).1 w'
  rw [this]; simp

set_option maxRecDepth 100000 in
set_option maxHeartbeats 1000000 in
theorem digestSums_c (s : ByteArray) (w : World) (ht : Tabs w) :
    Calls Tryd.prog 3 #[.string s] w fun e w' => e = .returned (.bool true) ∧ Below w.heap.size w w' := by
  have HT := Lib.hid ht
  clear ht
  by_cases h : (s.size : Int) ≤ 500
  all_goals
    go_enter Tryd.func3, Tryd.ntmps3
    go_wp2_with fail
    refine (sanity_c _ HT.out).mono ?_; rintro e w1 ⟨rfl, hb⟩
    have B1 := Lib.hid hb; clear hb
  · obtain ⟨cs, C1, C2, hq⟩ := sum_pack s (by omega)
    go_wp2_with fail
    refine (C1.out _ (HT.out.below B1.out)).mono ?_; rintro e w2 ⟨rfl, hb⟩
    have B2 := Lib.hid (B1.out.trans (hb.mono B1.out.size)); clear hb
    go_wp2_with fail
    refine (C2.out _).mono ?_; rintro e w3 ⟨rfl, hb⟩
    have B3 := Lib.hid (B2.out.trans (hb.mono B2.out.size)); clear hb
    go_wp2_with fail
    go_ret
    exact ⟨rfl, B3.out⟩
  · obtain ⟨cs, C1, C2, hq⟩ := sum_pack (s.extract 0 500) (by simp; omega)
    go_wp2_with fail
    refine (C1.out _ (HT.out.below B1.out)).mono ?_; rintro e w2 ⟨rfl, hb⟩
    have B2 := Lib.hid (B1.out.trans (hb.mono B1.out.size)); clear hb
    go_wp2_with fail
    refine (C2.out _).mono ?_; rintro e w3 ⟨rfl, hb⟩
    have B3 := Lib.hid (B2.out.trans (hb.mono B2.out.size)); clear hb
    go_wp2_with fail
    go_ret
    exact ⟨rfl, B3.out⟩
end Go.Proofs.YtjhljkcbbipeeaaDoor
