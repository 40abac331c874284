/- The text of a hash: Text of the program. -/
import Derived.Test.YtjhljkcbbipeeaaDoorGg
import Derived.Test.YtjhljkcbbipeeaaDoorGf
import Derived.Deep.AppendLies
import Derived.Deep.RegionLaw
namespace Go.Proofs.YtjhljkcbbipeeaaDoor
open Go.RowKit

def digitsS : ByteArray := ⟨#[48, 49, 50, 51, 52, 53, 54, 55, 56, 57, 97, 98, 99, 100, 101, 102]⟩
theorem digit_run (x : Int) (h0 : 0 ≤ x) (h1 : x < 16) (w : World) : (Instr.index 9 (.string ⟨#[48, 49, 50, 51, 52, 53, 54, 55, 56, 57, 97, 98, 99, 100, 101, 102]⟩) (.int .u8 x)).run Tryd.prog w = .ok (.int .u8 (Sha.hexD x)) w := by
  show (Instr.index 9 (.string digitsS) (.int .u8 x)).run Tryd.prog w = .ok (.int .u8 (Sha.hexD x)) w
  have hx : x.toNat < digitsS.size := by show _ < 16; omega
  have e := Sha.byteI_get digitsS x.toNat hx
  have hi : (0 ≤ x ∧ x < (digitsS.size : Int)) := ⟨h0, by show x < 16; exact h1⟩
  rw [run_index_string (P := Tryd.prog) (w := w) 9 digitsS .u8 x Tryd.underlying9, dif_pos hi, e, ← Sha.hexD_at x h0 h1]
  rfl
theorem text_facts {w w0 : World} {l : List Int} {cs : Array Value} (hcs : (l.map (Value.int .u8)).toArray = cs) (hg : (w.alloc (.cells cs 24)).grownBy w0 none) :
    Hid (Blk .u8 w0 w.heap.size 24 l) ∧ Hid (Below w.heap.size w w0) := by
  have hB := (Below.refl (w.alloc (.cells cs 24)).heap.size (w.alloc (.cells cs 24))).grown hg (Nat.le_refl _) (fun _ h => by cases h)
  refine ⟨Lib.hid ((Blk.new w l cs hcs.symm).below hB (by simp)), Lib.hid (((Below.refl _ w).alloc (Nat.le_refl _) _).trans (hB.mono (by simp)))⟩

theorem news_two (w : World) (T : TypeId) (a b : Value) (n : Nat) (hn : n = w.heap.size) (j : Nat) (u : Value) (h : [a, b][j]? = some u) : (w.alloc (.cells #[a, b] T)).cell? ((⟨n, 0, none⟩ : Addr).add j) = some u := by
  subst hn
  have hadd : (⟨w.heap.size, 0, none⟩ : Addr).add j = ⟨w.heap.size, j, none⟩ := by unfold Addr.add; split <;> simp_all
  rw [hadd, cell_of_row _ _ j _ _ _ (heap_alloc_new w _)]
  simpa using h

set_option maxRecDepth 100000 in
set_option maxHeartbeats 1000000 in
theorem text_c (l : List Int) (hl : Sha.Hash l) (w : World) :
    Calls Tryd.prog 16 #[hashV l] w fun e w' => e = .returned (.string (Sha.text l)) ∧ Below w.heap.size w w' := by
  obtain ⟨i0, hj, hz0, hz1, hz2⟩ := info_parts infoU8
  obtain ⟨cs, hcs⟩ : ∃ cs, (l.map (Value.int .u8)).toArray = cs := ⟨_, rfl⟩
  have hs : cs.size = 32 := by rw [← hcs]; simp [hl.1]
  have HH := Lib.hid hl; have HC := Lib.hid hcs
  unfold hashV
  rw [hcs]
  clear hl hcs
  go_enter Tryd.func16, Tryd.ntmps16
  go_wp2_with (first
    | (at_make; refine wpList_make_own _ rfl _ _ 36 rfl w.heap.size 5 i0 (.int .u8 0) 1 Tryd.underlying36 hj hz0 hz1 .i64 .i64 _ 64 rfl rfl rfl (by rw [hz2]; omega) (by unfold maxLen; omega) (by simp) ?_; intro w0 hown0 hgrow0; obtain ⟨hL0, hB0⟩ := text_facts HC.out hgrow0; have hO0 := Lib.hid hown0; clear hgrow0 hown0)
    | refine load_blk hL0.out rfl _ rfl rfl 32 5 (by kernel_rfl) (by rw [HH.out.1]; kernel_rfl) ?_)
  go_loopw [3, 5, 8] (fun v _ i wr => ∃ n g cap : Nat, n ≤ 32 ∧ i = .int .i64 n ∧ v = .slice (some ⟨g, 0, none⟩) (2 * n) cap ∧ Hid (wr.ownsRow w.heap.size 5 1 (.slice (some ⟨g, 0, none⟩) (2 * n) cap) (2 * n) ((Sha.textN l n).map (Value.int .u8))) ∧ Hid (Below w.heap.size w wr)) (fun _ _ i _ => 32 - (intOf i).toNat)
  case atStart => exact ⟨0, w.heap.size + 1, 64, by omega, rfl, rfl, by simpa [Sha.textN] using hO0, hB0⟩
  clear hL0 hO0 hB0
  case round =>
    obtain ⟨n, g, cap, hn, rfl, rfl, hO, hB⟩ := hrel
    by_cases hlt : n < 32
    · have hb := HH.out.2 n
      obtain ⟨x, hx⟩ : ∃ x, l.getD n 0 = x := ⟨_, rfl⟩
      have hi : ∀ w', (Instr.index 24 (.agg (l.map (Value.int .u8)).toArray) (.int .i64 (n : Int))).run Tryd.prog w' = .ok (.int .u8 x) w' := fun w' => hx ▸ index_row (n := 32) (e := 5) (by kernel_rfl) (by kernel_rfl) (by kernel_rfl) HH.out.1 hlt w'
      rw [hx] at hb
      have HX := Lib.hid hx
      have HLT := Lib.hid hlt
      obtain ⟨hb0, hb1⟩ := hb
      have d1 := fun w' => digit_run (x / 16) (by omega) (by omega) w'
      have d2 := fun w' => digit_run (x % 16) (by omega) (by omega) w'
      have hand := u8_and15 x hb0 hb1
      clear hx
      go_wp2_with fail
      go_region_law (first
        | (refine step_append_lies _ rfl _ _ 36 rfl w.heap.size 5 i0 _ 1 1 Tryd.underlying36 hj hz0 hz1 hz2 rfl (by decide) _ (2 * n) ((Sha.textN l n).map (Value.int .u8)) rfl (hO.out.drew.alloc _) _ 2 2 [.int .u8 (Sha.hexD (x / 16)), .int .u8 (Sha.hexD (x % 16))] rfl rfl (fun j u hu => news_two _ _ _ _ _ (by simp) j u hu) (by simp [Value.oneCell']) (by decide) (by unfold maxLen; have := HLT.out; omega) (by have := HLT.out; omega) (by have := hB.out.size; simp; omega) _ rfl ?_
           intro g5 cap5 w5 hown hgrow hlie hlt5
           have HO := Lib.hid hown; have HB5 := Lib.hid (Below.grown (Below.alloc (Below.drew hB.out) (by simpa using hB.out.size) _) hgrow (by have := hB.out.size; simp; omega) (fun q hq => (hO.out.lt q hq).1)); clear hown hgrow hlie hlt5))
      all_goals
        go_wp2
        refine ⟨⟨n + 1, g5, cap5, HLT.out, by go_num, by rw [Nat.mul_add], ?_, HB5⟩, by have := HLT.out; simp only [intOf]; omega⟩
        apply Lib.hid
        have e := HO.out
        rw [show 2 * (n + 1) = 2 * n + 2 from Nat.mul_add 2 n 1, Sha.textN, List.map_append, HX.out]
        exact e
    · obtain rfl : n = 32 := by omega
      have hS := (RowB.own hO.out rfl).str (P := Tryd.prog) (cap := cap) (n := 2 * 32) (Sha.textN_length _ _) 36 9 5 (by kernel_rfl) (by kernel_rfl) (by kernel_rfl)
      go_wp2
      go_ret
      exact ⟨rfl, hB.out⟩
end Go.Proofs.YtjhljkcbbipeeaaDoor
