/- The reference of layer 1: rows of digits to the base 65536; trim. Condition: the row holds the digits. -/
import Derived.Test.YtnccllelmbcdcaaGreatDoorProg
import Derived.Test.YtnccllelmbcdcaaGreatDoorDig
import Derived.WalkKit
import Derived.Laws.Externs
import Derived.WalkSpells
import Derived.WalkLawsBesides
import Derived.BigQuiet
import Derived.Deep.QuietTactic
import Derived.Lib.Hide
import Derived.Handy
import Derived.Deep.RegionHeld3
import Derived.RowKit3
import Derived.OwnWalk
import Derived.Laws.OwnMore
namespace Go.Proofs.YtnccllelmbcdcaaGreatDoor
open Go.RowKit

/-- The block b begins with these numbers. -/
def HoldsD (w : World) (b : Nat) (l : List Int) : Prop := ∀ i, i < l.length → w.cell? ⟨b, i, none⟩ = some (.int .i64 (l.getD i 0))

theorem take_pred (l : List Int) (k : Nat) (hk : k ≤ l.length) (h0 : 0 < k) : l.take k = l.take (k - 1) ++ [l.getD (k - 1) 0] := by
  obtain ⟨j, rfl⟩ : ∃ j, k = j + 1 := ⟨k - 1, by omega⟩
  simp only [Nat.add_sub_cancel]
  rw [List.take_add_one, List.getD_eq_getElem?_getD, List.getElem?_eq_getElem (by omega)]
  simp
theorem trim_zeroAt (l : List Int) (k : Nat) (hk : k ≤ l.length) (h0 : 0 < k) (h : l.getD (k - 1) 0 = 0) : Dig.trimL (l.take k) = Dig.trimL (l.take (k - 1)) := by
  rw [take_pred l k hk h0, Dig.trimL_snoc, h]; simp
theorem trim_stop (l : List Int) (k : Nat) (hk : k ≤ l.length) (h0 : 0 < k) (h : l.getD (k - 1) 0 ≠ 0) : Dig.trimL (l.take k) = l.take k := by
  rw [take_pred l k hk h0, Dig.trimL_snoc, if_neg (by simpa using h)]

def lenV : Value → Nat
  | .slice _ n _ => n
  | _ => 0

set_option maxHeartbeats 800000 in
theorem trim_some (b cap : Nat) (l : List Int) (w : World) (hc : HoldsD w b l) (hn : l.length ≤ cap) (hm : cap ≤ 9223372036854775807) :
    Calls Tryz.prog 60 #[.slice (some ⟨b, 0, none⟩) l.length cap] w fun e w' => e = .returned (.slice (some ⟨b, 0, none⟩) (Dig.trimL l).length cap) ∧ ∃ nq, w' = w.drewN nq := by
  have HC := Lib.hid hc; clear hc
  go_enter Tryz.func60, Tryz.ntmps60
  go_wp2
  go_loopw [0] (fun v wr => ∃ k : Nat, k ≤ l.length ∧ v = .slice (some ⟨b, 0, none⟩) k cap ∧ Hid (Dig.trimL (l.take k) = Dig.trimL l) ∧ ∃ nq, wr = w.drewN nq) (fun v _ => lenV v)
  case atStart => exact ⟨_, Nat.le_refl _, rfl, Lib.hid (by rw [List.take_length]), 0, rfl⟩
  case round =>
    obtain ⟨k, hk, rfl, hg, nq0, rfl⟩ := hrel
    by_cases h0 : k = 0
    · subst h0
      go_wp2
      go_ret
      have e := hg.out
      rw [List.take_zero] at e
      exact ⟨by rw [← e]; rfl, _, rfl⟩
    · have i0 : (0 : Int) ≤ (k : Int) - 1 := by omega
      have i1 : (k : Int) - 1 < (k : Int) := by omega
      have i2 : IntKind.i64.wrap ((k : Int) - 1) = (k : Int) - 1 := by rw [IntKind.wrap_i64]; omega
      have hp : (0 : Int) < (k : Int) := by omega
      have hcell : w.cell? ⟨b, k - 1, none⟩ = some (.int .i64 (l.getD (k - 1) 0)) := HC.out (k - 1) (by omega)
      obtain ⟨x, hx⟩ : ∃ x, l.getD (k - 1) 0 = x := ⟨_, rfl⟩
      rw [hx] at hcell
      by_cases hz : x = 0
      · subst hz
        have hx := Lib.hid hx
        go_wp2
        case roundEnd => exact ⟨⟨k - 1, by omega, rfl, Lib.hid (by rw [← trim_zeroAt l k hk (by omega) hx.out]; exact hg.out), _, rfl⟩, by simp [lenV]; omega⟩
      · have hq : (x == 0) = false := by simp [hz]
        have e := hg.out
        rw [trim_stop l k hk (by omega) (by rw [hx]; exact hz)] at e
        have e2 := Lib.hid (congrArg List.length e)
        clear e
        have hx := Lib.hid hx
        go_wp2
        go_ret
        have e3 := e2.out
        rw [List.length_take, Nat.min_eq_left hk] at e3
        exact ⟨by rw [← e3]; rfl, _, rfl⟩

theorem trim_none (w : World) : Calls Tryz.prog 60 #[.slice none 0 0] w fun e w' => e = .returned (.slice none 0 0) ∧ ∃ nq, w' = w.drewN nq := by
  go_enter Tryz.func60, Tryz.ntmps60
  go_wp2
  go_loopw [0] (fun v wr => v = .slice none 0 0 ∧ wr = w) (fun v _ => 0)
  case atStart => exact ⟨rfl, rfl⟩
  case round =>
    obtain ⟨rfl, rfl⟩ := hrel
    go_wp2
    go_ret
    exact ⟨rfl, 0, rfl⟩

/-- The order of two rows without a zero at the end. -/
def cmpV (a b : Int) : Int := if a < b then -1 else if a = b then 0 else 1

theorem cmp_shorter {a b : List Int} (ha : Dig.okL a) (hb : Dig.Trim b) (h : a.length < b.length) : cmpV (Dig.val a) (Dig.val b) = -1 := by
  have := Dig.len_lt ha hb h
  simp [cmpV, this]
theorem cmp_longer {a b : List Int} (hb : Dig.okL b) (ha : Dig.Trim a) (h : b.length < a.length) : cmpV (Dig.val a) (Dig.val b) = 1 := by
  have := Dig.len_lt hb ha h
  unfold cmpV; rw [if_neg (by omega), if_neg (by omega)]

/-- The slice v holds these numbers, from the head of a block on; or it is nil and there are none. -/
def RowV (w : World) (v : Value) (l : List Int) : Prop :=
  (v = .slice none 0 0 ∧ l = []) ∨ ∃ b cap : Nat, v = .slice (some ⟨b, 0, none⟩) l.length cap ∧ HoldsD w b l ∧ l.length ≤ cap ∧ cap ≤ 9223372036854775807

theorem HoldsD.below {w w' : World} {b : Nat} {l : List Int} (h : HoldsD w b l) (hb : Below w.heap.size w w') : HoldsD w' b l := fun i hi =>
  (hb.cell (p := ⟨b, i, none⟩) (World.block_lt_of_cell? w ⟨b, i, none⟩ (h i hi))).trans (h i hi)
theorem HoldsD.drewN {w : World} {b : Nat} {l : List Int} (h : HoldsD w b l) (n : Nat) : HoldsD (w.drewN n) b l := h
theorem RowV.below {w w' : World} {v : Value} {l : List Int} (h : RowV w v l) (hb : Below w.heap.size w w') : RowV w' v l := by
  rcases h with h | ⟨b, cap, h1, h2, h3, h4⟩
  · exact .inl h
  · exact .inr ⟨b, cap, h1, h2.below hb, h3, h4⟩
theorem RowV.drewN {w : World} {v : Value} {l : List Int} (h : RowV w v l) (n : Nat) : RowV (w.drewN n) v l := h
theorem RowV.nil (w : World) : RowV w (.slice none 0 0) [] := .inl ⟨rfl, rfl⟩
theorem RowV.own {w : World} {base n : Nat} {v : Value} {l : List Int} (h : w.ownsRow base 3 1 v n (l.map (Value.int .i64))) (hn : n = l.length) : RowV w v l := by
  subst hn
  have hc0 := h
  obtain ⟨_, h⟩ := h
  rcases h with ⟨rfl, h0⟩ | ⟨g, cap, cur, rfl, hb, hh, hc, hm, hs, ht⟩
  · exact .inl ⟨rfl, List.length_eq_zero_iff.1 h0⟩
  · refine .inr ⟨g, cap, rfl, ?_, hc, by unfold maxLen at hm; omega⟩
    intro i hi
    rw [hc0.cellAt i (by omega), List.getElem?_map, List.getElem?_eq_getElem hi]
    simp [List.getD_eq_getElem?_getD, hi]

theorem trimL_nil : Dig.trimL [] = [] := rfl
theorem trimL_take (l : List Int) : ∃ k, k ≤ l.length ∧ Dig.trimL l = l.take k := by
  induction h : l.length generalizing l with
  | zero => exact ⟨0, Nat.le_refl _, by rw [List.length_eq_zero_iff.1 h]; rfl⟩
  | succ n ih =>
    rcases Dig.snoc_cases l with rfl | ⟨r, d, rfl⟩
    · exact ⟨0, by omega, rfl⟩
    · rw [Dig.trimL_snoc]
      by_cases hd : d = 0
      · obtain ⟨k, hk, e⟩ := ih r (by simpa using h)
        have hr : r.length = n := by simpa using h
        exact ⟨k, by omega, by rw [if_pos (by simp [hd]), e, List.take_append_of_le_length (by omega)]⟩
      · exact ⟨n + 1, Nat.le_refl _, by rw [if_neg (by simp [hd]), List.take_of_length_le (by omega)]⟩

theorem trim_row (v : Value) (l : List Int) (w : World) (h : RowV w v l) :
    Calls Tryz.prog 60 #[v] w fun e w' => ∃ v', e = .returned v' ∧ RowV w v' (Dig.trimL l) ∧ (∃ nq, w' = w.drewN nq) ∧ (v ≠ .slice none 0 0 → v' ≠ .slice none 0 0) := by
  rcases h with ⟨rfl, rfl⟩ | ⟨b, cap, rfl, hc, hn, hm⟩
  · exact (trim_none w).mono fun e w' ⟨h1, h2⟩ => ⟨_, h1, RowV.nil w, h2, fun h => absurd rfl h⟩
  · refine (trim_some b cap l w hc hn hm).mono fun e w' ⟨h1, h2⟩ => ⟨_, h1, ?_, h2, fun _ h => by cases h⟩
    obtain ⟨k, hk, e⟩ := trimL_take l
    refine .inr ⟨b, cap, rfl, ?_, by rw [e, List.length_take]; omega, hm⟩
    intro i hi
    rw [e] at hi ⊢
    rw [List.length_take] at hi
    rw [hc i (by omega)]
    simp [List.getD_eq_getElem?_getD, show i < k by omega]
end Go.Proofs.YtnccllelmbcdcaaGreatDoor
