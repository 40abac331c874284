/- The reference of layer 1: what is owned stays owned; append of a whole row to a row of the call's own; a row that a call gave, block and all. -/
import Derived.Test.YtnccllelmbcdcaaGreatDoorRf
import Derived.Test.YtnccllelmbcdcaaGreatDoorRg
import Derived.Laws.AppendOwnNone
namespace Go.Proofs.YtnccllelmbcdcaaGreatDoor
open Go.RowKit

theorem own_below {w w' : World} {B e size n : Nat} {v : Value} {xs : List Value} (h : w.ownsRow B e size v n xs) (hb : Below w.heap.size w w') : w'.ownsRow B e size v n xs := by
  refine ⟨h.1, ?_⟩
  rcases h.2 with hn | ⟨g, cap, cur, rfl, hg, hgg, rest⟩
  · exact .inl hn
  · exact .inr ⟨g, cap, cur, rfl, hg, by rw [hb.block g (Array.getElem?_eq_some_iff.1 hgg).1]; exact hgg, rest⟩

/-- A row that the call owns, with its block. -/
theorem own_some {w : World} {base n : Nat} {v : Value} {l : List Int} (h : w.ownsRow base 3 1 v n (l.map (Value.int .i64))) (hn : 0 < n) (hl : n = l.length) :
    ∃ g cap : Nat, v = .slice (some ⟨g, 0, none⟩) l.length cap ∧ base ≤ g ∧ HoldsD w g l ∧ l.length ≤ cap ∧ cap ≤ 9223372036854775807 := by
  subst hl
  have hc0 := h
  rcases h.2 with ⟨rfl, h0⟩ | ⟨g, cap, cur, rfl, hb, hh, hc, hm, hs, ht⟩
  · omega
  · refine ⟨g, cap, rfl, hb, ?_, hc, by unfold maxLen at hm; omega⟩
    intro i hi
    rw [hc0.cellAt i (by omega), List.getElem?_map, List.getElem?_eq_getElem hi]
    simp [List.getD_eq_getElem?_getD, hi]

theorem HoldsD.take {w : World} {b k : Nat} {l : List Int} (h : HoldsD w b l) : HoldsD w b (l.take k) := fun i hi => by
  rw [List.length_take] at hi
  rw [h i (by omega)]
  simp [List.getD_eq_getElem?_getD, show i < k by omega]
theorem HoldsD.trim {w : World} {b : Nat} {l : List Int} (h : HoldsD w b l) : HoldsD w b (Dig.trimL l) := by
  obtain ⟨k, hk, e⟩ := trimL_take l
  rw [e]; exact h.take
theorem trimL_len (l : List Int) : (Dig.trimL l).length ≤ l.length := by
  obtain ⟨k, hk, e⟩ := trimL_take l
  rw [e, List.length_take]; omega
theorem HoldsD.setCell {w : World} {b g j : Nat} {l : List Int} (h : HoldsD w b l) (hne : g ≠ b) (u : Value) : HoldsD (w.setCell ⟨g, j, none⟩ u) b l := fun i hi =>
  (World.cell?_of_block (w := w) (a := ⟨b, i, none⟩) (Below.heap_setCell w ⟨g, j, none⟩ u b (fun e => hne e.symm))).trans (h i hi)
theorem HoldsD.alloc {w : World} {b : Nat} {l : List Int} (h : HoldsD w b l) (o : Obj) : HoldsD (w.alloc o) b l := h.below ((Below.refl _ _).alloc (Nat.le_refl _) _)
theorem RowV.alloc {w : World} {v : Value} {l : List Int} (h : RowV w v l) (o : Obj) : RowV (w.alloc o) v l := h.below ((Below.refl _ _).alloc (Nat.le_refl _) _)

theorem wpList_append_rowv {w : World} {ops : Array Oper} {rest : List Oper} {o : Oper} {a : Act} {Q : Exit → Act → World → Prop} (hgd : o.guard = none) (s x : Operand) (t : TypeId)
    (ho : o.op = .call { callee := .builtin .append, args := #[s, x], argTypes := #[t, t] })
    (base : Nat) (i : TypeInfo) (ht : Tryz.prog.underlying t = some (.slice 3)) (hi : Tryz.prog.info? 3 = some i) (hz : i.zero = some (.int .i64 0)) (hsize : i.size = 1) (hby : i.bytes = 8)
    (v : Value) (n : Nat) (xs : List Value) (hs : a.eval s = v) (hown : w.ownsRow base 3 1 v n xs) (rv : Value) (l : List Int) (hx : a.eval x = rv) (hr : RowV w rv l)
    (h63 : n + l.length ≤ maxLen) (hbytes : (n + l.length) * 8 ≤ 140737488355328) (hbase : base ≤ w.heap.size)
    (h : ∀ v' w', w'.ownsRow base 3 1 v' (n + l.length) (xs ++ l.map (Value.int .i64)) → w.grownBy w' v.ownBlock → wpList Tryz.prog ops Q rest (a.put o.dst v') w') : wpList Tryz.prog ops Q (o :: rest) a w := by
  rcases hr with ⟨rfl, rfl⟩ | ⟨b, cap, rfl, hc, hn, hm⟩
  · refine wpList_append_own_none hgd s x t ho base 3 i 1 ht hi v n xs hs hown hx (h v w ?_ ⟨rfl, rfl, rfl, Nat.le_refl _, fun _ _ _ => rfl⟩)
    simpa using hown
  · refine wpList_append_own w hgd s x t ho base 3 i (.int .i64 0) 1 8 ht hi hz hsize hby rfl (by decide) v n xs hs hown ⟨b, 0, none⟩ l.length cap (l.map (Value.int .i64)) hx (by simp) ?_ ?_ h63 hbytes hbase (fun v' w' h1 h2 _ => h v' w' h1 h2)
    · intro j u hj
      rw [List.getElem?_map] at hj
      by_cases hl : j < l.length
      · rw [List.getElem?_eq_getElem hl] at hj
        simp only [Option.map_some, Option.some.injEq] at hj
        subst hj
        have := hc j hl
        have e : ((⟨b, 0, none⟩ : Addr).add j) = ⟨b, j, none⟩ := by
          cases j <;> simp [Addr.add]
        rw [e, this]
        simp [List.getD_eq_getElem?_getD, hl]
      · rw [List.getElem?_eq_none (by omega)] at hj; simp at hj
    · intro u hu
      obtain ⟨z, _, rfl⟩ := List.mem_map.1 hu
      rfl

/-- What the append of the rest behind the next digit leaves. -/
theorem ahead_row {B : Nat} {w wr w1 : World} {v' : Value} {o : Obj} {s : List Int} {p : Int} {g0 : Nat} (hg0 : g0 = wr.heap.size) (hnx : Below B w wr) (hB : B ≤ wr.heap.size)
    (hown' : w1.ownsRow wr.heap.size 3 1 v' (1 + s.length) ([Value.int .i64 p] ++ s.map (Value.int .i64))) (hgrow : (wr.alloc o).grownBy w1 (some g0)) :
    (∃ g cap : Nat, v' = .slice (some ⟨g, 0, none⟩) (p :: s).length cap ∧ wr.heap.size ≤ g ∧ HoldsD w1 g (p :: s) ∧ (p :: s).length ≤ cap ∧ cap ≤ 9223372036854775807) ∧ Below wr.heap.size wr w1 ∧ Below B w w1 := by
  subst hg0
  have h1 : Below wr.heap.size wr w1 := ((Below.refl _ _).alloc (Nat.le_refl _) o).grown hgrow (by simp) (fun j hj => by simp at hj; omega)
  refine ⟨own_some (l := p :: s) (n := 1 + s.length) (base := wr.heap.size) (by simpa using hown') (by omega) (by simp; omega), h1, hnx.trans (h1.mono hB)⟩
end Go.Proofs.YtnccllelmbcdcaaGreatDoor
