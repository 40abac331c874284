/- The laws: TreePaths. -/
import Derived.Test.YtkjdfjpfghpofaaDoorUx
import Derived.Test.YtkjdfjpfghpofaaDoorUp
namespace Go.Proofs.YtkjdfjpfghpofaaDoor
open Go.RowKit

/-- While paths are looked at: the strings, and what is new. -/
def PathsW (w : World) (u : Value) (S : List ByteArray) (wr : World) : Prop := StrsV wr u S ∧ Below w.heap.size w wr
theorem PathsW.below {w wr w' : World} {u : Value} {S : List ByteArray} (h : PathsW w u S wr) (hb : Below wr.heap.size wr w') : PathsW w u S w' := ⟨h.1.below hb, h.2.trans (hb.mono h.2.size)⟩
theorem PathsW.drew {w wr : World} {u : Value} {S : List ByteArray} (h : PathsW w u S wr) : PathsW w u S wr.drew := ⟨h.1, h.2.drew⟩
def PathsH (w : World) (u : Value) (S : List ByteArray) (p : Value) (hs : List (List Int)) (wr : World) : Prop := PathsW w u S wr ∧ HashesV wr p hs
theorem PathsH.below {w wr w' : World} {u p : Value} {S : List ByteArray} {hs : List (List Int)} (h : PathsH w u S p hs wr) (hb : Below wr.heap.size wr w') : PathsH w u S p hs w' := ⟨h.1.below hb, h.2.below hb⟩
theorem PathsH.drew {w wr : World} {u p : Value} {S : List ByteArray} {hs : List (List Int)} (h : PathsH w u S p hs wr) : PathsH w u S p hs wr.drew := ⟨h.1.drew, h.2⟩

theorem path_hashes (l : List ByteArray) (i : Nat) (hi : i < l.length) : ∀ x ∈ Tree.path l i, x.length = 32 := by
  have hp := Tree.path_down l i l.length ⟨0, l.length, false⟩ (by simp) (by simp) hi (by simp)
  simp only [Tree.seg_all, Nat.sub_zero] at hp
  rw [hp]
  exact rootsOf_hash _ _

set_option maxRecDepth 100000 in
set_option maxHeartbeats 4000000 in
theorem treePaths_c (w : World) (ht : Tabs w) (v : Value) (l : List Int) (n : Int) (hv : NumsV w v l) (_hn : -9223372036854775808 ≤ n ∧ n ≤ 9223372036854775807) :
    Calls Tryd.prog 4 #[v, .int .i64 n] w fun e w' => e = .returned (.bool true) ∧ Below w.heap.size w w' := by
  have HT := Lib.hid ht
  have HN := Lib.hid hv
  obtain ⟨va, vc, rfl⟩ := hv.shape
  have hS := Tree.strings_length l
  have hS20 : (Tree.strings l).length ≤ 20 := by omega
  have hss : ∀ s ∈ Tree.strings l, s.size ≤ 140737488351232 := fun s hs => by have := Tree.strs_size l _ s hs; omega
  have CS := Lib.hid (fun w' h => refStrings_c (.slice va l.length vc) l w' h)
  obtain ⟨S, eS⟩ : ∃ S, Tree.strings l = S := ⟨_, rfl⟩
  rw [eS] at CS hS20 hss
  have HSS := Lib.hid (And.intro hss hS20)
  clear ht hv eS hS hss hS20
  go_enter Tryd.func4, Tryd.ntmps4
  go_wp2_with fail
  refine (sanity_c _ HT.out).mono ?_; rintro e w1 ⟨rfl, hb⟩
  have HB1 := Lib.hid hb; clear hb
  go_wp2_with fail
  refine (CS.out _ (HN.out.below HB1.out)).mono ?_; rintro e w2 ⟨u, rfl, hU, hb⟩
  have hQ : Hid (PathsW w u S w2) := Lib.hid ⟨strs_of_own hU, HB1.out.trans (hb.mono HB1.out.size)⟩
  obtain ⟨a, c, rfl⟩ := (strs_of_own hU).shape
  clear hU hb HB1 CS HN
  go_wp2_with fail
  obtain ⟨P, eP⟩ : ∃ P, (if 0 ≤ n ∧ n < (S.length : Int) then Tree.path S n.toNat else []) = P := ⟨_, rfl⟩
  obtain ⟨ok, eok⟩ : ∃ b, decide (0 ≤ n ∧ n < (S.length : Int)) = b := ⟨_, rfl⟩
  have hP : (∀ x ∈ P, x.length = 32) ∧ P.length ≤ 63 := by
    rw [← eP]
    split
    · exact ⟨path_hashes _ _ (by omega), path_length S n.toNat S.length rfl (by omega) (by have := HSS.out.2; omega)⟩
    · simp
  have HP := Lib.hid hP
  have C1 := path_c _ S n HSS.out.1 w2 (HT.out.below hQ.out.2) hQ.out.1
  rw [eP, eok] at C1
  refine C1.mono ?_; rintro e w3 ⟨p, rfl, hO, hb⟩
  have hQ3 : Hid (PathsH w (.slice a S.length c) S p P w3) := Lib.hid ⟨hQ.out.below hb, hashes_of_own hO HP.out.1⟩
  clear hO hb C1 hQ hP
  have hQ := hQ3
  clear hQ3
  go_wp2_with fail
  have C2 := refPath_c _ S n HSS.out.1 w3 hQ.out.1.1
  rw [eP, eok] at C2
  refine C2.mono ?_; rintro e w4 ⟨q, rfl, hO, hb⟩
  have hQ4 : Hid (PathsH w (.slice a S.length c) S p P w4 ∧ HashesV w4 q P) := Lib.hid ⟨hQ.out.below hb, hashes_of_own hO HP.out.1⟩
  clear hO hb C2 hQ eP eok
  have C3 := Lib.hid (same_c p q P P w4 hQ4.out.1.2 hQ4.out.2 (by have := HP.out; omega) (by have := HP.out; omega))
  have hbb : (ok != ok) = false := by cases ok <;> rfl
  have hPP : (P == P) = true := by simp
  rw [hPP] at C3
  clear hPP
  go_wp2_with (go_at_call 23; refine C3.out.mono ?_; rintro e w5 ⟨rfl, hb⟩; have hQ : Hid (PathsW w (.slice a S.length c) S w5) := Lib.hid (hQ4.out.1.1.below hb); clear hb hQ4 C3)
  have hu := Tryd.underlying9
  go_loopw [11, 12, 13, 40] (fun _ _ _ i wr => ∃ j : Nat, j ≤ S.length ∧ i = .int .i64 j ∧ Hid (PathsW w (.slice a S.length c) S wr)) (fun _ _ _ i _ => S.length - (intOf i).toNat)
  case atStart => exact ⟨0, by omega, rfl, hQ⟩
  clear hQ HP hbb
  case round =>
    obtain ⟨j, hj, rfl, hQ⟩ := hrel
    by_cases hlt : j < S.length
    · obtain ⟨b, off, cap, e1, hc, hm, hst⟩ : ∃ b off cap, Value.slice a S.length c = .slice (some ⟨b, off, none⟩) S.length cap ∧ (S.length : Int) ≤ (cap : Int) ∧ (cap : Int) ≤ 9223372036854775807 ∧ StrsAt wr b off S := by
        rcases hQ.out.1 with ⟨he, _⟩ | ⟨_, h⟩
        · rw [he] at hlt; simp at hlt
        · exact h
      injection e1 with e1 _ e1c
      subst e1 e1c
      have hdj : decide (0 ≤ (j : Int) ∧ (j : Int) < (S.length : Int)) = true := by simpa using hlt
      have CP := path_c _ S j HSS.out.1 wr (HT.out.below hQ.out.2) hQ.out.1
      rw [hdj, if_pos (by omega), Int.toNat_natCast] at CP
      have h20 := HSS.out.2
      have hck := check_right S j hlt
      have hp32 := path_hashes S j hlt
      have hpl := path_length S j S.length rfl hlt (by omega)
      have hrh := (root_hash S).1
      have hsj := HSS.out.1 (S.getD j ByteArray.empty) (by rw [List.getD_eq_getElem?_getD, List.getElem?_eq_getElem hlt]; exact List.getElem_mem _)
      have CK0 := fun w' p' (hw : Tabs w') (hp : HashesV w' p' (Tree.path S j)) => checkPath_c (S.length : Int) (j : Int) (S.getD j ByteArray.empty) p' (Tree.path S j) (Tree.root S) hrh (by omega) hsj (by omega) w' hw hp
      rw [hck] at CK0
      have CH0 := fun w' (h : PathsW w (.slice (some ⟨b, off, none⟩) S.length c) S w') => refHeadOf_c _ S HSS.out.1 w' h.1
      obtain ⟨hd, ehd⟩ : ∃ hd, headV (S.length : Int) (Tree.root S) = hd := ⟨_, rfl⟩
      rw [ehd] at CK0 CH0
      have hcell := hst.2 j hlt
      obtain ⟨s, es⟩ : ∃ s, S.getD j ByteArray.empty = s := ⟨_, rfl⟩
      rw [es] at CK0 hcell
      obtain ⟨PS, ePS⟩ : ∃ x, Tree.path S j = x := ⟨_, rfl⟩
      rw [ePS] at CK0 CP hp32
      have CK := Lib.hid CK0
      have CH := Lib.hid CH0
      have HX := Lib.hid (And.intro hlt (And.intro hp32 (And.intro hst.1 hcell)))
      have i1 : (j : Int) < (S.length : Int) := by omega
      have i20 : (S.length : Int) ≤ 20 := by omega
      clear CK0 CH0 hck hpl hrh hsj ehd es ePS hst hcell hp32 h20 hdj hlt hj hm
      go_wp2_with fail
      refine CP.mono ?_; rintro e wa ⟨p', rfl, hO, hb⟩
      have hc2 := (hb.cell (p := ⟨b, off + j, none⟩) HX.out.2.2.1).trans HX.out.2.2.2
      have hQ2 : Hid (PathsH w (.slice (some ⟨b, off, none⟩) S.length c) S p' PS wa ∧ b < wa.heap.size) := Lib.hid ⟨⟨hQ.out.below hb, hashes_of_own hO HX.out.2.1⟩, Nat.lt_of_lt_of_le HX.out.2.2.1 hb.size⟩
      clear hO hb CP hQ
      have hQ := hQ2
      clear hQ2
      go_wp2_with fail
      go_region_held3 (fun w' => w'.cell? ⟨b, off + j, none⟩ = some (.string s)) (first | exact hc3 | exact hc2 | simp [*, go_sem])
        (first
          | (go_at_call 25; refine (CH.out _ (by first | exact hQ.out.1.1 | exact hQ.out.1.1.drew)).mono ?_; rintro e wb ⟨rfl, hb⟩; have hc3 : wb.cell? ⟨b, off + j, none⟩ = some (.string s) := (hb.cell (p := ⟨b, off + j, none⟩) hQ.out.2).trans hc2; have hQ3 : Hid (PathsH w (.slice (some ⟨b, off, none⟩) S.length c) S p' PS wb ∧ b < wb.heap.size) := Lib.hid ⟨PathsH.below (by first | exact hQ.out.1 | exact hQ.out.1.drew) hb, Nat.lt_of_lt_of_le hQ.out.2 hb.size⟩; clear hb)
          | (go_at_call 24; refine (CK.out _ _ (HT.out.below hQ3.out.1.1.2) hQ3.out.1.2).mono ?_; rintro e wd ⟨rfl, hb⟩; have hc4 : wd.cell? ⟨b, off + j, none⟩ = some (.string s) := (hb.cell (p := ⟨b, off + j, none⟩) hQ3.out.2).trans hc3; have hQ4 : Hid (PathsW w (.slice (some ⟨b, off, none⟩) S.length c) S wd) := Lib.hid (hQ3.out.1.1.below hb); clear hb))
      all_goals
        clear hc2 hc3 hc4 hQ hQ3
        go_wp2
        exact ⟨⟨j + 1, HX.out.1, by go_num, hQ4⟩, by have := HX.out.1; simp only [intOf]; omega⟩
    · obtain rfl : j = S.length := by omega
      go_wp2_with fail
      go_ret
      exact ⟨rfl, hQ.out.2⟩
end Go.Proofs.YtkjdfjpfghpofaaDoor
