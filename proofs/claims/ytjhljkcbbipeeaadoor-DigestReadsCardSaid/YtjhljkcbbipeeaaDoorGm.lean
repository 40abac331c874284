/- The hash whose text a string is: Read of the reference. -/
import Derived.Test.YtjhljkcbbipeeaaDoorGj
namespace Go.Proofs.YtjhljkcbbipeeaaDoor
open Go.RowKit

def digitsT : ByteArray := ⟨#[48, 49, 50, 51, 52, 53, 54, 55, 56, 57, 97, 98, 99, 100, 101, 102]⟩
theorem digit_at (n : Nat) (h : n < 16) (w : World) : (Instr.index 9 (.string ⟨#[48, 49, 50, 51, 52, 53, 54, 55, 56, 57, 97, 98, 99, 100, 101, 102]⟩) (.int .i64 (n : Int))).run Tryd.prog w = .ok (.int .u8 (Sha.hexD (n : Int))) w := by
  show (Instr.index 9 (.string digitsT) (.int .i64 (n : Int))).run Tryd.prog w = .ok (.int .u8 (Sha.hexD (n : Int))) w
  have hx : ((n : Int)).toNat < digitsT.size := by show _ < 16; omega
  have e := Sha.byteI_get digitsT ((n : Int)).toNat hx
  have hi : (0 ≤ (n : Int) ∧ (n : Int) < (digitsT.size : Int)) := ⟨by omega, by show (n : Int) < 16; omega⟩
  rw [run_index_string (P := Tryd.prog) (w := w) 9 digitsT .i64 (n : Int) Tryd.underlying9, dif_pos hi, e, ← Sha.hexD_at (n : Int) (by omega) (by omega)]
  rfl

set_option maxRecDepth 100000 in
set_option maxHeartbeats 1000000 in
theorem refRead_size (s : ByteArray) (hs : s.size ≠ 64) (w : World) :
    Calls Tryd.prog 19 #[.string s] w fun e w' => e = .returned (.tuple #[hashV (List.replicate 32 0), .bool false]) ∧ Below w.heap.size w w' := by
  have e0 : ((s.size : Int) != 64) = true := by simp; omega
  go_enter Tryd.func19, Tryd.ntmps19
  go_wp2_with (first
    | refine load_blk (readW_start w _ _ (by rfl) (by rfl)).2.1 rfl _ rfl rfl 32 5 (by kernel_rfl) (by kernel_rfl) ?_
    | refine store_blk (readW_start w _ _ (by rfl) (by rfl)).1 rfl _ _ rfl rfl (List.replicate 32 0) rfl rfl (by kernel_rfl) ?_)
  exact bodyPost_ret (Blk.results2 ((readW_start w _ _ (by rfl) (by rfl)).1.row (List.replicate 32 0)) Tryd.results19 _ rfl (.bool false) rfl 32 5 (by kernel_rfl) (by kernel_rfl)) rfl ⟨rfl, Below.setRow (readW_start w _ _ (by rfl) (by rfl)).2.2 (Nat.le_refl _) _⟩

theorem ReadW.drewN {w wr : World} {l : List Int} (h : ReadW w l wr) (n : Nat) : ReadW w l (wr.drewN n) := ⟨h.1, h.2.1, bdn h.2.2 n⟩

set_option maxRecDepth 100000 in
set_option maxHeartbeats 2000000 in
theorem refRead_body (s : ByteArray) (hs : s.size = 64) (w : World) :
    Calls Tryd.prog 19 #[.string s] w fun e w' => e = .returned (.tuple #[hashV (if Sha.okR s 64 then Sha.valR s 64 else List.replicate 32 0), .bool (Sha.okR s 64)]) ∧ Below w.heap.size w w' := by
  have e0 : ((s.size : Int) != 64) = false := by simp; omega
  have HS := Lib.hid hs
  clear hs
  obtain ⟨L, hL⟩ : ∃ L, (if Sha.okR s 64 then Sha.valR s 64 else List.replicate 32 0) = L := ⟨_, rfl⟩
  obtain ⟨ok, hok⟩ : ∃ b, Sha.okR s 64 = b := ⟨_, rfl⟩
  have HLK := Lib.hid (And.intro hL hok)
  rw [hL, hok]
  clear hL hok
  go_enter Tryd.func19, Tryd.ntmps19
  go_wp2_with fail
  go_loopw [5, 6, 7] (fun i _ _ wr => ∃ n : Nat, n ≤ 64 ∧ i = .int .i64 n ∧ Hid (Sha.okR s n = true) ∧ Hid (ReadW w (Sha.valR s n) wr)) (fun i _ _ _ => 64 - (intOf i).toNat)
  case atStart =>
    refine ⟨0, by omega, rfl, Lib.hid rfl, ?_⟩
    apply Lib.hid
    exact readW_start w _ _ (by rfl) (by rfl)
  case round =>
    obtain ⟨n, hn, rfl, hK, hM⟩ := hrel
    by_cases hlt : n < 64
    · have hA := Sha.byteI_get s n (by rw [HS.out]; omega)
      have ba := And.intro (Sha.byteI_lo s n) (Sha.byteI_hi s n)
      have hN : Sha.okR s (n + 1) = (Sha.okR s n && Sha.isD (Sha.byteI s n)) := rfl
      have hV : Sha.valR s (n + 1) = (Sha.valR s n).set (n / 2) (((Sha.valR s n).getD (n / 2) 0 * 16 % 256 + Sha.valD (Sha.byteI s n)) % 256) := rfl
      obtain ⟨x, hx⟩ : ∃ x, Sha.byteI s n = x := ⟨_, rfl⟩
      rw [hx] at hA ba hN hV
      rw [hK.out, Bool.true_and] at hN
      have hF := Sha.findD_all x ba
      have HX := Lib.hid (And.intro hN (And.intro hV hF))
      have HLT := Lib.hid hlt
      have i0 : (n : Int) < 64 := by omega
      have z1 : (n : Int) < (s.size : Int) := by rw [HS.out]; omega
      clear hx hN hV hF ba
      go_wp2_with fail
      go_loopw [6, 7] (fun f k wr => ∃ j : Nat, j ≤ 16 ∧ k = .int .i64 j ∧ f = .int .i64 (Sha.findD x j) ∧ Hid (ReadW w (Sha.valR s n) wr)) (fun _ k _ => 16 - (intOf k).toNat)
      case atStart => exact ⟨0, by omega, rfl, rfl, hM⟩
      clear hM
      case round =>
        obtain ⟨j, hj, rfl, rfl, hM⟩ := hrel
        by_cases hlj : j < 16
        · have d1 := fun w' => digit_at j hlj w'
          have HLJ := Lib.hid hlj
          have z2 : (j : Int) < 16 := by omega
          by_cases hq : Sha.hexD (j : Int) = x
          · have q1 : (Sha.hexD (j : Int) == x) = true := by simp [hq]
            have hF : Sha.findD x (j + 1) = (j : Int) := by simp [Sha.findD, hq]
            have HF := Lib.hid hF
            clear hq hF
            go_wp2_with fail
            go_quiet (fail)
            go_wp2_with fail
            exact ⟨⟨j + 1, HLJ.out, by go_num, by rw [HF.out], Lib.hid (hM.out.drewN _)⟩, by have := HLJ.out; simp only [intOf]; omega⟩
          · have q1 : (Sha.hexD (j : Int) == x) = false := by simp [hq]
            have hF : Sha.findD x (j + 1) = Sha.findD x j := by simp [Sha.findD, hq]
            have HF := Lib.hid hF
            clear hq hF
            go_wp2_with fail
            go_quiet (fail)
            go_wp2_with fail
            exact ⟨⟨j + 1, HLJ.out, by go_num, by rw [HF.out], Lib.hid (hM.out.drewN _)⟩, by have := HLJ.out; simp only [intOf]; omega⟩
        · obtain rfl : j = 16 := by omega
          rw [HX.out.2.2]
          clear hA z1 hj hlj
          cases hd : Sha.isD x
          · have hO : Sha.okR s 64 = false := Sha.okR_false s (n + 1) 64 (by rw [HX.out.1, hd]) HLT.out
            have HO := Lib.hid hO
            clear hO hd
            simp only [Bool.false_eq_true, if_false]
            go_wp2_with (refine store_blk hM.out.1 rfl _ _ rfl rfl (List.replicate 32 0) rfl rfl (by kernel_rfl) ?_)
            exact bodyPost_ret (Blk.results2 (hM.out.1.row (List.replicate 32 0)) Tryd.results19 _ rfl (.bool false) rfl 32 5 (by kernel_rfl) (by kernel_rfl)) rfl ⟨by rw [← HLK.out.1, ← HLK.out.2, HO.out]; rfl, Below.setRow hM.out.2.2 (Nat.le_refl _) _⟩
          · have v0 := Sha.valD_lo x
            obtain ⟨p, hp⟩ : ∃ p, Sha.valD x = p := ⟨_, rfl⟩
            rw [hp] at v0
            obtain ⟨v00, v01⟩ := v0
            have hc := hM.out.2.1.cell (n / 2) (by rw [Sha.valR_length]; omega)
            have hf := hM.out.2.1.free (n / 2)
            obtain ⟨y, hy⟩ : ∃ y, (Sha.valR s n).getD (n / 2) 0 = y := ⟨_, rfl⟩
            rw [hy] at hc
            have HP := Lib.hid (And.intro hp (And.intro hy hd))
            have hmod : p % 256 = p := by omega
            have i1 : (n : Int) / 2 < 32 := by omega
            clear hy hd
            simp only [if_true]
            rw [hp]
            clear hp
            have q1 : ¬ p < 0 := by omega
            go_wp2_with fail
            refine ⟨⟨n + 1, HLT.out, by go_num, Lib.hid (by rw [HX.out.1, HP.out.2.2]), Lib.hid ?_⟩, by have := HLT.out; simp only [intOf]; omega⟩
            have e := hM.out.set (n / 2) (y * 16 % 256 + p)
            rw [HX.out.2.1, HP.out.1, HP.out.2.1, show (y * 16 % 256 + p) % 256 = y * 16 % 256 + p by omega]
            exact e
    · obtain rfl : n = 64 := by omega
      have hlen := Sha.valR_length s 64
      obtain ⟨l, hl⟩ : ∃ l, Sha.valR s 64 = l := ⟨_, rfl⟩
      have HL := Lib.hid hl
      rw [hl] at hM hlen
      have HN := Lib.hid hlen
      clear hl hlen hlt hn
      go_wp2_with (first
        | refine load_blk hM.out.2.1 rfl _ rfl rfl 32 5 (by kernel_rfl) (by rw [HN.out]; kernel_rfl) ?_
        | refine store_blk hM.out.1 rfl _ _ rfl rfl l rfl HN.out (by kernel_rfl) ?_)
      exact bodyPost_ret (Blk.results2 (hM.out.1.row l) Tryd.results19 _ rfl (.bool true) rfl 32 5 (by kernel_rfl) (by rw [HN.out]; kernel_rfl)) rfl ⟨by rw [← HLK.out.1, ← HLK.out.2, hK.out, HL.out]; rfl, Below.setRow hM.out.2.2 (Nat.le_refl _) _⟩

theorem read_c (s : ByteArray) (w : World) :
    Calls Tryd.prog 18 #[.string s] w fun e w' => e = .returned (.tuple #[hashV (Sha.readL s), .bool (Sha.readOk s)]) ∧ Below w.heap.size w w' := by
  by_cases h : s.size = 64
  · have e1 : Sha.readOk s = Sha.okN s 32 := by simp [Sha.readOk, h]
    unfold Sha.readL
    rw [e1]; exact read_body s h w
  · have e1 : Sha.readOk s = false := by simp [Sha.readOk, h]
    unfold Sha.readL
    rw [e1]; exact read_size s h w
theorem refRead_c (s : ByteArray) (w : World) :
    Calls Tryd.prog 19 #[.string s] w fun e w' => e = .returned (.tuple #[hashV (Sha.readL s), .bool (Sha.readOk s)]) ∧ Below w.heap.size w w' := by
  by_cases h : s.size = 64
  · have e1 : Sha.readOk s = Sha.okR s 64 := by rw [show (64 : Nat) = 2 * 32 from rfl, Sha.okR_even]; simp [Sha.readOk, h]
    have e2 : Sha.valN s 32 = Sha.valR s 64 := (Sha.valR_even s 32 (Nat.le_refl _)).symm
    unfold Sha.readL
    rw [e1, e2]; exact refRead_body s h w
  · have e1 : Sha.readOk s = false := by simp [Sha.readOk, h]
    unfold Sha.readL
    rw [e1]; exact refRead_size s h w
end Go.Proofs.YtjhljkcbbipeeaaDoor
