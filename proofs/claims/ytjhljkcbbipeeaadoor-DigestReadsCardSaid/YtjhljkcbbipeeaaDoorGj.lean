/- The hash whose text a string is: Read of the program. -/
import Derived.Test.YtjhljkcbbipeeaaDoorGg
namespace Go.Proofs.YtjhljkcbbipeeaaDoor
open Go.RowKit

theorem digit_num (c : Int) (h0 : 48 ≤ c) (h1 : c ≤ 57) (w : World) : Calls Tryd.prog 27 #[.int .u8 c] w fun e w' => e = .returned (.tuple #[.int .u8 (c - 48), .bool true]) ∧ w = w' := by
  have e1 : decide ((48 : Int) ≤ c) = true := by simpa using h0
  have e2 : decide (c ≤ (57 : Int)) = true := by simpa using h1
  go_enter Tryd.func27, Tryd.ntmps27
  go_wp2
  go_ret2
  exact ⟨rfl, rfl⟩
theorem digit_let (c : Int) (h0 : 97 ≤ c) (h1 : c ≤ 102) (w : World) : Calls Tryd.prog 27 #[.int .u8 c] w fun e w' => e = .returned (.tuple #[.int .u8 (c - 87), .bool true]) ∧ w = w' := by
  have e1 : decide ((48 : Int) ≤ c) = true := by simp; omega
  have e2 : decide (c ≤ (57 : Int)) = false := by simp; omega
  have e3 : decide ((97 : Int) ≤ c) = true := by simpa using h0
  have e4 : decide (c ≤ (102 : Int)) = true := by simpa using h1
  have e5 : c - 97 + 10 = c - 87 := by omega
  go_enter Tryd.func27, Tryd.ntmps27
  go_wp2
  go_ret2
  exact ⟨by rw [← e5]; rfl, rfl⟩
theorem digit_no (c : Int) (hb : 0 ≤ c ∧ c < 256) (h : Sha.isD c = false) (w : World) : Calls Tryd.prog 27 #[.int .u8 c] w fun e w' => e = .returned (.tuple #[.int .u8 0, .bool false]) ∧ w = w' := by
  simp [Sha.isD] at h
  obtain ⟨ha, hc⟩ := h
  go_enter Tryd.func27, Tryd.ntmps27
  go_wp2
  all_goals first | (go_ret2; exact ⟨rfl, rfl⟩) | (exfalso; omega)
theorem digit_c (c : Int) (hb : 0 ≤ c ∧ c < 256) (w : World) : Calls Tryd.prog 27 #[.int .u8 c] w fun e w' => e = .returned (.tuple #[.int .u8 (Sha.valD c), .bool (Sha.isD c)]) ∧ w = w' := by
  by_cases h : 48 ≤ c ∧ c ≤ 57
  · have e1 : Sha.valD c = c - 48 := by simp [Sha.valD, h]
    have e2 : Sha.isD c = true := by simp [Sha.isD, h]
    rw [e1, e2]; exact digit_num c h.1 h.2 w
  · by_cases h2 : 97 ≤ c ∧ c ≤ 102
    · have e1 : Sha.valD c = c - 87 := by simp [Sha.valD, h, h2]
      have e2 : Sha.isD c = true := by simp [Sha.isD, h2]
      rw [e1, e2]; exact digit_let c h2.1 h2.2 w
    · have e1 : Sha.valD c = 0 := by simp [Sha.valD, h, h2]
      have e2 : Sha.isD c = false := by unfold Sha.isD; simp only [h, h2]; rfl
      rw [e1, e2]; exact digit_no c hb e2 w

/-- What stands in memory while a text is read. -/
def ReadW (w : World) (l : List Int) (wr : World) : Prop :=
  Blk .u8 wr w.heap.size 24 (List.replicate 32 0) ∧ Blk .u8 wr (w.heap.size + 1) 24 l ∧ Below w.heap.size w wr
theorem readW_start (w : World) (zs ys : Array Value) (hz : zs = ((List.replicate 32 0).map (Value.int .u8)).toArray) (hy : ys = ((List.replicate 32 0).map (Value.int .u8)).toArray) :
    ReadW w (List.replicate 32 0) ((w.alloc (.cells zs 24)).alloc (.cells ys 24)) := by
  have hB : Below w.heap.size w ((w.alloc (.cells zs 24)).alloc (.cells ys 24)) := by (repeat' (first | (with_reducible exact Below.refl _ _) | (with_reducible assumption) | (with_reducible refine bdn ?_ _) | (with_reducible refine Below.drew ?_) | (with_reducible refine Below.alloc ?_ ?_ _) | (with_reducible refine Below.setCell ?_ ?_ _) | go_size))
  exact ⟨(zeros_new _ _ _ .u8 32 _ rfl hz).alloc _, zeros_new _ _ _ .u8 32 _ (by simp) hy, hB⟩
theorem ReadW.set {w wr : World} {l : List Int} (h : ReadW w l wr) (j : Nat) (v : Int) : ReadW w (l.set j v) (wr.setCell ⟨w.heap.size + 1, j, none⟩ (.int .u8 v)) :=
  ⟨h.1.other _ _ (by omega : w.heap.size ≠ w.heap.size + 1), h.2.1.set j v, h.2.2.setCell (by omega : w.heap.size ≤ w.heap.size + 1) _⟩
theorem Blk.results2 {P : Program} {k : IntKind} {w : World} {b : Nat} {T : TypeId} {l : List Int} (h : Blk k w b T l) {fn : Func} {p q : Tmp} (hr : fn.results = #[.cell p T, .tmp q]) (tmps : Array Value) (hp : tmps.getD p undef = .pointer (some ⟨b, 0, none⟩)) (v : Value) (hq : tmps.getD q undef = v) (n : Nat) (e : TypeId) (hu : P.underlying T = some (.array n e)) (hi : (P.info? T).map (·.size) = some l.length) :
    (results fn tmps).run P w = .ok (.tuple #[.agg (l.map (Value.int k)).toArray, v]) w := by
  have hp' : tmps[p]?.getD undef = .pointer (some ⟨b, 0, none⟩) := by simpa using hp
  have hq' : tmps[q]?.getD undef = v := by simpa using hq
  have hl := run_loadVar_row (P := P) w b T T _ (0, 0) _ h hu rfl (by simpa using hi)
  simp [results, hr, hp', hq', asAddr, hl]

set_option maxRecDepth 100000 in
set_option maxHeartbeats 1000000 in
theorem read_size (s : ByteArray) (hs : s.size ≠ 64) (w : World) :
    Calls Tryd.prog 18 #[.string s] w fun e w' => e = .returned (.tuple #[hashV (List.replicate 32 0), .bool false]) ∧ Below w.heap.size w w' := by
  have e0 : ((s.size : Int) != 64) = true := by simp; omega
  go_enter Tryd.func18, Tryd.ntmps18
  go_wp2_with (refine store_blk (readW_start w _ _ (by rfl) (by rfl)).1 rfl _ _ rfl rfl (List.replicate 32 0) rfl rfl (by kernel_rfl) ?_)
  exact bodyPost_ret (Blk.results2 ((readW_start w _ _ (by rfl) (by rfl)).1.row (List.replicate 32 0)) Tryd.results18 _ rfl (.bool false) rfl 32 5 (by kernel_rfl) (by kernel_rfl)) rfl ⟨rfl, Below.setRow (readW_start w _ _ (by rfl) (by rfl)).2.2 (Nat.le_refl _) _⟩

set_option maxRecDepth 100000 in
set_option maxHeartbeats 2000000 in
theorem read_body (s : ByteArray) (hs : s.size = 64) (w : World) :
    Calls Tryd.prog 18 #[.string s] w fun e w' => e = .returned (.tuple #[hashV (if Sha.okN s 32 then Sha.valN s 32 else List.replicate 32 0), .bool (Sha.okN s 32)]) ∧ Below w.heap.size w w' := by
  have e0 : ((s.size : Int) != 64) = false := by simp; omega
  have HS := Lib.hid hs
  clear hs
  obtain ⟨L, hL⟩ : ∃ L, (if Sha.okN s 32 then Sha.valN s 32 else List.replicate 32 0) = L := ⟨_, rfl⟩
  obtain ⟨ok, hok⟩ : ∃ b, Sha.okN s 32 = b := ⟨_, rfl⟩
  have HLK := Lib.hid (And.intro hL hok)
  rw [hL, hok]
  clear hL hok
  go_enter Tryd.func18, Tryd.ntmps18
  go_wp2_with fail
  go_loopw [5, 6, 7, 8, 9, 14] (fun _ _ _ _ _ i wr => ∃ n : Nat, n ≤ 32 ∧ i = .int .i64 n ∧ Hid (Sha.okN s n = true) ∧ Hid (ReadW w (Sha.valN s n) wr)) (fun _ _ _ _ _ i _ => 32 - (intOf i).toNat)
  case atStart =>
    refine ⟨0, by omega, rfl, Lib.hid rfl, ?_⟩
    apply Lib.hid
    exact readW_start w _ _ (by rfl) (by rfl)
  case round =>
    obtain ⟨n, hn, rfl, hK, hM⟩ := hrel
    by_cases hlt : n < 32
    · have hA := Sha.byteI_get s (2 * n) (by rw [HS.out]; omega)
      have hB := Sha.byteI_get s (2 * n + 1) (by rw [HS.out]; omega)
      have ba := And.intro (Sha.byteI_lo s (2 * n)) (Sha.byteI_hi s (2 * n))
      have bb := And.intro (Sha.byteI_lo s (2 * n + 1)) (Sha.byteI_hi s (2 * n + 1))
      have hN : Sha.okN s (n + 1) = (Sha.okN s n && Sha.isD (Sha.byteI s (2 * n)) && Sha.isD (Sha.byteI s (2 * n + 1))) := rfl
      have hV : Sha.valN s (n + 1) = (Sha.valN s n).set n (Sha.valD (Sha.byteI s (2 * n)) * 16 + Sha.valD (Sha.byteI s (2 * n + 1))) := rfl
      have hd := hM.out.2.1.cell n (by rw [Sha.valN_length]; exact hlt)
      have hf := hM.out.2.1.free n
      obtain ⟨x, hx⟩ : ∃ x, Sha.byteI s (2 * n) = x := ⟨_, rfl⟩
      obtain ⟨y, hy⟩ : ∃ x, Sha.byteI s (2 * n + 1) = x := ⟨_, rfl⟩
      rw [hx] at hA ba hN hV; rw [hy] at hB bb hN hV
      rw [hK.out, Bool.true_and] at hN
      have HX := Lib.hid (And.intro hN hV)
      have HLT := Lib.hid hlt
      have z1 : 2 * (n : Int) < (s.size : Int) := by rw [HS.out]; omega
      have z2 : 2 * (n : Int) + 1 < (s.size : Int) := by rw [HS.out]; omega
      have z3 : (2 * (n : Int)).toNat = 2 * n := by omega
      have z4 : (2 * (n : Int) + 1).toNat = 2 * n + 1 := by omega
      have dx := fun w' => digit_c x ba w'
      have dy := fun w' => digit_c y bb w'
      have DX := Lib.hid (And.intro dx dy)
      clear hx hy hN hV dx dy
      by_cases hp : Sha.isD x = true ∧ Sha.isD y = true
      · have HP := Lib.hid hp
        have v0 := Sha.valD_lo x
        have v1 := Sha.valD_lo y
        have hor := Sha.u8_join (Sha.valD x) (Sha.valD y) v0.1 v0.2 v1.1 v1.2
        obtain ⟨p, hpx⟩ : ∃ p, Sha.valD x = p := ⟨_, rfl⟩
        obtain ⟨q, hqx⟩ : ∃ p, Sha.valD y = p := ⟨_, rfl⟩
        have HPQ := Lib.hid (And.intro hpx hqx)
        have hmod : p * 16 % 256 = p * 16 := by omega
        rw [hpx] at hor v0 DX; rw [hqx] at hor v1 DX
        obtain ⟨v00, v01⟩ := v0
        obtain ⟨v10, v11⟩ := v1
        clear hpx hqx hp
        go_wp2_with (first
            | (go_at_call_of 27 (Value.int IntKind.u8 x); refine (DX.out.1 _).mono ?_; rintro e w1 ⟨rfl, rfl⟩; rw [HP.out.1])
            | (go_at_call_of 27 (Value.int IntKind.u8 y); refine (DX.out.2 _).mono ?_; rintro e w1 ⟨rfl, rfl⟩; rw [HP.out.2]))
        refine ⟨⟨n + 1, HLT.out, by go_num, Lib.hid (by rw [HX.out.1, HP.out.1, HP.out.2]; rfl), Lib.hid ?_⟩, by have := HLT.out; simp only [intOf]; omega⟩
        have e := hM.out.set n (p * 16 + q)
        rw [HX.out.2, HPQ.out.1, HPQ.out.2]
        exact e
      · have HP := Lib.hid hp
        clear hp
        obtain ⟨p, hpx⟩ : ∃ p, Sha.isD x = p := ⟨_, rfl⟩
        obtain ⟨q, hqx⟩ : ∃ p, Sha.isD y = p := ⟨_, rfl⟩
        have hO : Sha.okN s 32 = false := Sha.okN_false s (n + 1) 32 (by rw [HX.out.1]; have := HP.out; cases h1 : Sha.isD x <;> cases h2 : Sha.isD y <;> simp_all) HLT.out
        have HO := Lib.hid hO
        have HPQ := Lib.hid (And.intro hpx hqx)
        rw [hpx, hqx] at HP DX
        clear hO hpx hqx
        cases p <;> cases q
        case true.true => exact absurd (And.intro rfl rfl) HP.out
        all_goals
          go_wp2_with (first
            | (go_at_call_of 27 (Value.int IntKind.u8 x); refine (DX.out.1 _).mono ?_; rintro e w1 ⟨rfl, rfl⟩)
            | (go_at_call_of 27 (Value.int IntKind.u8 y); refine (DX.out.2 _).mono ?_; rintro e w1 ⟨rfl, rfl⟩)
            | refine store_blk hM.out.1 rfl _ _ rfl rfl (List.replicate 32 0) rfl rfl (by kernel_rfl) ?_)
          exact bodyPost_ret (Blk.results2 (hM.out.1.row (List.replicate 32 0)) Tryd.results18 _ rfl (.bool false) rfl 32 5 (by kernel_rfl) (by kernel_rfl)) rfl ⟨by rw [← HLK.out.1, ← HLK.out.2, HO.out]; rfl, Below.setRow hM.out.2.2 (Nat.le_refl _) _⟩
    · obtain rfl : n = 32 := by omega
      have hlen := Sha.valN_length s 32
      obtain ⟨l, hl⟩ : ∃ l, Sha.valN s 32 = l := ⟨_, rfl⟩
      have HL := Lib.hid hl
      rw [hl] at hM hlen
      have HN := Lib.hid hlen
      clear hl hlen hlt hn
      go_wp2_with (first
        | refine load_blk hM.out.2.1 rfl _ rfl rfl 32 5 (by kernel_rfl) (by rw [HN.out]; kernel_rfl) ?_
        | refine store_blk hM.out.1 rfl _ _ rfl rfl l rfl HN.out (by kernel_rfl) ?_)
      exact bodyPost_ret (Blk.results2 (hM.out.1.row l) Tryd.results18 _ rfl (.bool true) rfl 32 5 (by kernel_rfl) (by rw [HN.out]; kernel_rfl)) rfl ⟨by rw [← HLK.out.1, ← HLK.out.2, hK.out, HL.out]; rfl, Below.setRow hM.out.2.2 (Nat.le_refl _) _⟩
end Go.Proofs.YtjhljkcbbipeeaaDoor
