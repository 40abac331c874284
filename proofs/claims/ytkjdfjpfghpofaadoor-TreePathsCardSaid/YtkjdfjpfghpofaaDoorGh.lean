/- The hash of a string: Sum. -/
import Derived.Test.YtkjdfjpfghpofaaDoorGg
import Derived.Test.YtkjdfjpfghpofaaDoorGf
import Derived.Deep.DeepCutAuto
namespace Go.Proofs.YtkjdfjpfghpofaaDoor
open Go.RowKit

theorem TabB.cells8 {w : World} {g : Nat} (h : TabB w g Sha.hL) : w.cell? ⟨g, 0, none⟩ = some (.int .u32 1779033703) ∧ w.cell? ⟨g, 1, none⟩ = some (.int .u32 3144134277) ∧ w.cell? ⟨g, 2, none⟩ = some (.int .u32 1013904242) ∧ w.cell? ⟨g, 3, none⟩ = some (.int .u32 2773480762) ∧ w.cell? ⟨g, 4, none⟩ = some (.int .u32 1359893119) ∧ w.cell? ⟨g, 5, none⟩ = some (.int .u32 2600822924) ∧ w.cell? ⟨g, 6, none⟩ = some (.int .u32 528734635) ∧ w.cell? ⟨g, 7, none⟩ = some (.int .u32 1541459225) :=
  ⟨h.cell 0 (by decide), h.cell 1 (by decide), h.cell 2 (by decide), h.cell 3 (by decide), h.cell 4 (by decide), h.cell 5 (by decide), h.cell 6 (by decide), h.cell 7 (by decide)⟩

theorem Below.setCells {B : Nat} {a : World} {b : Nat} (hb : B ≤ b) : ∀ (vs : List Value) (o : Nat) (w : World), Below B a w → Below B a (w.setCells b o vs)
  | [], _, _, h => h
  | v :: r, o, w, h => Below.setCells hb r (o + 1) _ (h.setCell (p := ⟨b, o, none⟩) hb v)
theorem Blk.there {k : IntKind} {w : World} {b : Nat} {T : TypeId} {l : List Int} (h : Blk k w b T l) (n : Nat) (hn : n = l.length) : w.there b 0 n := fun j hj => by
  rw [Nat.zero_add, h.cell j (by omega)]; exact ⟨rfl, h.free j⟩
theorem result_mid {P : Program} {w : World} {b : Nat} {T : TypeId} {cs : List Value} (h : w.rangeAt b 0 cs) {fn : Func} {p : Tmp} (hr : fn.results = #[.cell p T]) (tmps : Array Value) (hp : tmps.getD p undef = .pointer (some ⟨b, 0, none⟩)) (n : Nat) (e : TypeId) (hu : P.underlying T = some (.array n e)) (hi : (P.info? T).map (·.size) = some cs.length) :
    (results fn tmps).run P w = .ok (.agg cs.toArray) w := by
  have hp' : tmps[p]?.getD undef = .pointer (some ⟨b, 0, none⟩) := by simpa using hp
  simp [results, hr, hp', asAddr, run_loadVar_mid w b 0 T cs _ h hu rfl hi]

/-- What stands in memory while a hash is made. -/
def SumW (w wr : World) : Prop := Blk .u8 wr w.heap.size 24 (List.replicate 32 0) ∧ Tabs w ∧ Below w.heap.size w wr
theorem SumW.below {w wr w' : World} (h : SumW w wr) (hb : Below wr.heap.size wr w') : SumW w w' := ⟨h.1.below hb h.1.lt, h.2.1, h.2.2.trans (hb.mono h.2.2.size)⟩
theorem SumW.tabs {w wr : World} (h : SumW w wr) : Tabs wr := h.2.1.below h.2.2
theorem SumW.drewN {w wr : World} (h : SumW w wr) (n : Nat) : SumW w (wr.drewN n) := ⟨h.1, h.2.1, bdn h.2.2 n⟩
theorem SumW.drew {w wr : World} (h : SumW w wr) : SumW w wr.drew := ⟨h.1, h.2.1, h.2.2.drew⟩
theorem sumW_start (w : World) (ht : Tabs w) (zs : Array Value) (hz : zs = ((List.replicate 32 0).map (Value.int .u8)).toArray) : SumW w (w.alloc (.cells zs 24)) := by
  have hB : Below w.heap.size w (w.alloc (.cells zs 24)) := by (repeat' (first | (with_reducible exact Below.refl _ _) | (with_reducible assumption) | (with_reducible refine bdn ?_ _) | (with_reducible refine Below.drew ?_) | (with_reducible refine Below.alloc ?_ ?_ _) | (with_reducible refine Below.setCell ?_ ?_ _) | go_size))
  exact ⟨zeros_new _ _ _ .u8 32 _ rfl hz, ht, hB⟩
theorem SumW.keep {w wr : World} (h : SumW w wr) (l : List Int) : (wr.setCells w.heap.size 0 (List.map (Value.int .u8) l)).there w.heap.size 0 32 ∧ (wr.setCells w.heap.size 0 (List.map (Value.int .u8) l)).cell? ⟨0, 0, none⟩ = some (.int .u32 1779033703) ∧ (wr.setCells w.heap.size 0 (List.map (Value.int .u8) l)).cell? ⟨0, 1, none⟩ = some (.int .u32 3144134277) ∧ (wr.setCells w.heap.size 0 (List.map (Value.int .u8) l)).cell? ⟨0, 2, none⟩ = some (.int .u32 1013904242) ∧ (wr.setCells w.heap.size 0 (List.map (Value.int .u8) l)).cell? ⟨0, 3, none⟩ = some (.int .u32 2773480762) ∧ (wr.setCells w.heap.size 0 (List.map (Value.int .u8) l)).cell? ⟨0, 4, none⟩ = some (.int .u32 1359893119) ∧ (wr.setCells w.heap.size 0 (List.map (Value.int .u8) l)).cell? ⟨0, 5, none⟩ = some (.int .u32 2600822924) ∧ (wr.setCells w.heap.size 0 (List.map (Value.int .u8) l)).cell? ⟨0, 6, none⟩ = some (.int .u32 528734635) ∧ (wr.setCells w.heap.size 0 (List.map (Value.int .u8) l)).cell? ⟨0, 7, none⟩ = some (.int .u32 1541459225) :=
  ⟨World.there_setCells (h.1.there 32 rfl) _ _ _, (h.2.1.below (Below.setCells (Nat.le_refl _) _ _ _ h.2.2)).2.cells8⟩

set_option maxRecDepth 100000 in
set_option maxHeartbeats 1000000 in
theorem sum_c (s : ByteArray) (hs : s.size ≤ 140737488351240) (w : World) (ht : Tabs w) :
    Calls Tryd.prog 36 #[.string s] w fun e w' => e = .returned (hashV (Sha.sum s)) ∧ Below w.heap.size w w' := by
  have HT := Lib.hid ht
  clear ht
  obtain ⟨m, hm⟩ : ∃ m, s.size / 64 = m := ⟨_, rfl⟩
  have hle : 64 * m ≤ s.size := by omega
  obtain ⟨k, hk, hk2⟩ := Sha.rest_size s m hle
  have hF := Sha.sum_split s m k hle hk
  have hA : (s.extract 0 (64 * m)).size = 64 * m := by simp; omega
  obtain ⟨A, eA⟩ : ∃ A, s.extract 0 (64 * m) = A := ⟨_, rfl⟩
  obtain ⟨R, eR⟩ : ∃ R, s.extract (64 * m) s.size = R := ⟨_, rfl⟩
  obtain ⟨D, eD⟩ : ∃ D, strOfNums (Sha.padI s.size) = D := ⟨_, rfl⟩
  rw [eA, eR, eD] at hF
  rw [eR, eD] at hk
  rw [eA] at hA
  have hadd : ∀ w, (Op.stringOp .add R D).run Tryd.prog w = .ok (.string (R ++ D)) w := fun w => run_string_add_sum w _ _ (by rw [← ByteArray.size_append, hk]; omega)
  obtain ⟨M, eM⟩ : ∃ M, R ++ D = M := ⟨_, rfl⟩
  rw [eM] at hadd hF hk
  have z0 : (s.size : Int) - (s.size : Int) % 64 = ((64 * m : Nat) : Int) := by omega
  have HS := Lib.hid (And.intro hs (And.intro hA (And.intro hk (And.intro hF (And.intro hk2 (And.intro hle eD))))))
  obtain ⟨q, hq⟩ : ∃ q, 64 * m = q := ⟨_, rfl⟩
  rw [hq] at z0 eA eR hle
  have HQ := Lib.hid hq
  clear hm hk hk2 hF hA eM eD hq
  go_enter Tryd.func36, Tryd.ntmps36
  go_wp2
  go_cut [4] (fun v wx => v = .string M ∧ Hid (SumW w wx))
  case first =>
    have hW : Hid (SumW w (w.alloc (.cells ((List.replicate 32 0).map (Value.int .u8)).toArray 24))) := Lib.hid (sumW_start w HT.out _ rfl)
    go_region_held3 (fun _ => True) (trivial)
      ((go_at_call 54; refine (padding_c s.size (by omega) _).mono ?_; rintro e w1 ⟨rfl, hb⟩; rw [HS.out.2.2.2.2.2.2]; have hM1 : Hid (SumW w w1) := Lib.hid (SumW.below (by first | exact hW.out | exact hW.out.drew | exact hW.out.drewN _) hb); clear hb))
    all_goals
      go_wp2
      go_meet
      case rel => exact ⟨rfl, hM1⟩
  case rest =>
    obtain ⟨rfl, hM⟩ := hcut
    obtain ⟨c0, c1, c2, c3, c4, c5, c6, c7⟩ := hM.out.tabs.2.cells8
    obtain ⟨S1, e1⟩ : ∃ S, Sha.absorb Sha.hS A m = S := ⟨_, rfl⟩
    obtain ⟨S2, e2⟩ : ∃ S, Sha.absorb S1 M k = S := ⟨_, rfl⟩
    obtain ⟨l, e3⟩ : ∃ l, Sha.hashN S2.list 32 = l := ⟨_, rfl⟩
    have hl : l.length = 32 := by rw [← e3]; exact Sha.hashN_length _ _
    have hF : Sha.sum s = l := by rw [HS.out.2.2.2.1, e1, e2, e3]
    have C1 : Hid (∀ w', TabB w' 1 Sha.kL → Calls Tryd.prog 56 #[.agg #[.int .u32 1779033703, .int .u32 3144134277, .int .u32 1013904242, .int .u32 2773480762, .int .u32 1359893119, .int .u32 2600822924, .int .u32 528734635, .int .u32 1541459225], .string A] w' fun e w'' => e = .returned (stV S1) ∧ Below w'.heap.size w' w'') := Lib.hid (fun w' h => e1 ▸ absorbed_c Sha.hS A m HS.out.2.1 (by have := HS.out; omega) w' h)
    have C2 : Hid (∀ w', TabB w' 1 Sha.kL → Calls Tryd.prog 56 #[stV S1, .string M] w' fun e w'' => e = .returned (stV S2) ∧ Below w'.heap.size w' w'') := Lib.hid (fun w' h => e2 ▸ absorbed_c S1 M k HS.out.2.2.1 (by have := HS.out; omega) w' h)
    have C3 : Hid (∀ w', Calls Tryd.prog 55 #[stV S2] w' fun e w'' => e = .returned (hashV l) ∧ Below w'.heap.size w' w'') := Lib.hid (fun w' => e3 ▸ hashOf_c S2 w')
    have ho : ∀ v, v ∈ List.map (Value.int .u8) l → v.oneCell' = true := fun v hv => by obtain ⟨x, _, rfl⟩ := List.mem_map.1 hv; rfl
    have hi24 : (Tryd.prog.info? 24).map (·.size) = some 32 := by kernel_rfl
    have hnn : (List.map (Value.int .u8) l).length = 32 := by rw [List.length_map, hl]
    have HL := Lib.hid (And.intro hl hF)
    have hth := fun (w' : World) (h : SumW w w') => h.1.there 32 rfl
    have HTH := Lib.hid hth
    have h0 := HTH.out _ hM.out
    clear hth
    clear e1 e2 e3 hl hF
    go_wp2_with fail
    go_region_held3 (fun w' => w'.there w.heap.size 0 32 ∧ w'.cell? ⟨0, 0, none⟩ = some (.int .u32 1779033703) ∧ w'.cell? ⟨0, 1, none⟩ = some (.int .u32 3144134277) ∧ w'.cell? ⟨0, 2, none⟩ = some (.int .u32 1013904242) ∧ w'.cell? ⟨0, 3, none⟩ = some (.int .u32 2773480762) ∧ w'.cell? ⟨0, 4, none⟩ = some (.int .u32 1359893119) ∧ w'.cell? ⟨0, 5, none⟩ = some (.int .u32 2600822924) ∧ w'.cell? ⟨0, 6, none⟩ = some (.int .u32 528734635) ∧ w'.cell? ⟨0, 7, none⟩ = some (.int .u32 1541459225)) (first | exact hM3.out.keep l | simp [*, go_sem])
      (first
        | (go_at_call_of 56 (Value.string A); refine (C1.out _ (by exact hM.out.tabs.1)).mono ?_; rintro e w1 ⟨rfl, hb⟩; have hM1 : Hid (SumW w w1) := Lib.hid (SumW.below (by first | exact hM.out | exact hM.out.drew | exact hM.out.drewN _) hb); obtain ⟨d0, d1, d2, d3, d4, d5, d6, d7⟩ := hM1.out.tabs.2.cells8; have h1 := HTH.out _ hM1.out; clear hb)
        | (go_at_call_of 56 (Value.string M); refine (C2.out _ (by exact hM1.out.tabs.1)).mono ?_; rintro e w2 ⟨rfl, hb⟩; have hM2 : Hid (SumW w w2) := Lib.hid (SumW.below hM1.out hb); obtain ⟨e0, e1, e2, e3, e4, e5, e6, e7⟩ := hM2.out.tabs.2.cells8; have h2 := HTH.out _ hM2.out; clear hb)
        | (go_at_call 55; refine (C3.out _).mono ?_; rintro e w3 ⟨rfl, hb⟩; have hM3 : Hid (SumW w w3) := Lib.hid (SumW.below hM2.out hb); obtain ⟨f0, f1, f2, f3, f4, f5, f6, f7⟩ := hM3.out.tabs.2.cells8; have h3 := HTH.out _ hM3.out; clear hb))
    all_goals
      go_wp2
      exact bodyPost_ret (result_mid (World.rangeAt_setCells_same w3 w.heap.size 0 (List.map (Value.int .u8) l) (by rw [hnn]; exact h3)) Tryd.results36 _ rfl 32 5 (by kernel_rfl) (by rw [hnn]; exact hi24)) rfl ⟨by rw [HL.out.2]; rfl, Below.setCells (Nat.le_refl _) _ _ _ hM3.out.2.2⟩
end Go.Proofs.YtkjdfjpfghpofaaDoor
