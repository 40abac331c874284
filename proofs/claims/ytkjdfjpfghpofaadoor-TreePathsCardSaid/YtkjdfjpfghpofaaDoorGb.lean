/- Blocks of memory that are known whole: rows of integers. -/
import Derived.Test.YtkjdfjpfghpofaaDoorGa
import Derived.Laws.Rows
import Derived.Deep.MidRow
import Derived.Deep.WholeRow
import Derived.LoopTactic
import Derived.Below
import Derived.Laws.BytesArg
import Derived.Deep.Cut
namespace Go.Proofs.YtkjdfjpfghpofaaDoor
open Go.RowKit

theorem bdn {B : Nat} {a w : World} (h : Below B a w) (n : Nat) : Below B a (w.drewN n) := below_drewN h n
theorem bs {B n : Nat} {W w1 : World} (hb : Below B W w1) (hn : n < W.heap.size) : n < w1.heap.size := Nat.lt_of_lt_of_le hn hb.size

/-- Block b is a row of these numbers, and may be written. -/
def Blk (k : IntKind) (w : World) (b : Nat) (T : TypeId) (l : List Int) : Prop := w.heap[b]? = some (.cells (l.map (Value.int k)).toArray T (0, 0))

section
variable {k : IntKind} {w : World} {b : Nat} {T : TypeId} {l : List Int}
theorem Blk.lt (h : Blk k w b T l) : b < w.heap.size := by
  by_cases hlt : b < w.heap.size
  · exact hlt
  · have hn : w.heap[b]? = none := by simp; omega
    rw [Blk, hn] at h; cases h
theorem Blk.cell (h : Blk k w b T l) (i : Nat) (hi : i < l.length) : w.cell? ⟨b, i, none⟩ = some (.int k (l.getD i 0)) := by
  rw [cell_of_row _ _ _ _ _ _ h]; simp [List.getD_eq_getElem?_getD, hi]
theorem Blk.free (h : Blk k w b T l) (i : Nat) : w.frozen? ⟨b, i, none⟩ = false := frozen_of_row w b i _ _ h
theorem Blk.set (h : Blk k w b T l) (i : Nat) (v : Int) : Blk k (w.setCell ⟨b, i, none⟩ (.int k v)) b T (l.set i v) := by
  unfold Blk
  rw [heap_setCell_same w b i _ T _ h]
  congr 2
  apply Array.ext_getElem?
  intro j
  simp [Array.getElem?_setIfInBounds, List.getElem?_set]
theorem Blk.other (h : Blk k w b T l) (a : Addr) (v : Value) (hb : b ≠ a.block) : Blk k (w.setCell a v) b T l := (heap_setCell_other w a b v hb).trans h
theorem Blk.alloc (h : Blk k w b T l) (o : Obj) : Blk k (w.alloc o) b T l := (Below.heap_alloc w o b h.lt).trans h
theorem Blk.new (w : World) (l : List Int) (cs : Array Value) (hc : cs = (l.map (Value.int k)).toArray) : Blk k (w.alloc (.cells cs T)) w.heap.size T l := by
  subst hc; exact heap_alloc_new w _
theorem Blk.drewN (h : Blk k w b T l) (n : Nat) : Blk k (w.drewN n) b T l := h
theorem Blk.below {B : Nat} {w' : World} (h : Blk k w b T l) (hb : Below B w w') (hB : b < B) : Blk k w' b T l := (hb.block b hB).trans h
theorem Blk.load {P : Program} (h : Blk k w b T l) (n : Nat) (e : TypeId) (hu : P.underlying T = some (.array n e)) (hi : (P.info? T).map (·.size) = some l.length) :
    (Instr.loadAt T (.pointer (some ⟨b, 0, none⟩))).run P w = .ok (.agg (l.map (Value.int k)).toArray) w := by
  simp only [Instr.loadAt, Instr.sureAddr, Sem.run_bind, Sem.run_pure, Result.andThen_ok, run_loadVar_row w b T T _ (0, 0) _ h hu rfl (by simpa using hi)]
theorem rowOne (k : IntKind) (l : List Int) : (l.map (Value.int k)).toArray.all (·.oneCell') = true :=
  all_oneCell_toArray (fun v hv => by obtain ⟨x, _, rfl⟩ := List.mem_map.1 hv; rfl)
theorem Blk.store {P : Program} (h : Blk k w b T l) (l' : List Int) (hl : l'.length = l.length) (hi : (P.info? T).map (·.size) = some l.length) :
    (Instr.storeAt T (.pointer (some ⟨b, 0, none⟩)) (.agg (l'.map (Value.int k)).toArray)).run P w = .ok () (w.setRow b (l'.map (Value.int k)).toArray) := by
  simp only [Instr.storeAt, Instr.sureAddr, Sem.run_bind, Sem.run_pure, Result.andThen_ok, run_storeVar_row w b T T _ _ h (by simpa [hl] using hi) (by simp [hl]) (rowOne k l')]
theorem load_blk {P : Program} {ops : Array Oper} {rest : List Oper} {o : Oper} {a : Act} {Q : Exit → Act → World → Prop} (h : Blk k w b T l) (hgd : o.guard = none) (x : Operand) (ho : o.op = .load T x)
    (hx : a.eval x = .pointer (some ⟨b, 0, none⟩)) (n : Nat) (e : TypeId) (hu : P.underlying T = some (.array n e)) (hi : (P.info? T).map (·.size) = some l.length)
    (hK : wpList P ops Q rest (a.put o.dst (.agg (l.map (Value.int k)).toArray)) w) : wpList P ops Q (o :: rest) a w :=
  wpList_load_row hgd T x ho b hx T _ (0, 0) _ h hu rfl (by simpa using hi) hK
theorem store_blk {P : Program} {ops : Array Oper} {rest : List Oper} {o : Oper} {a : Act} {Q : Exit → Act → World → Prop} (h : Blk k w b T l) (hgd : o.guard = none) (x y : Operand) (ho : o.op = .store T x y)
    (hx : a.eval x = .pointer (some ⟨b, 0, none⟩)) (l' : List Int) (hy : a.eval y = .agg (l'.map (Value.int k)).toArray) (hl : l'.length = l.length) (hi : (P.info? T).map (·.size) = some l.length)
    (hK : wpList P ops Q rest (a.put o.dst undef) (w.setRow b (l'.map (Value.int k)).toArray)) : wpList P ops Q (o :: rest) a w :=
  wpList_plain hgd fun _ hK' => wp_store_row T x y ho b _ hx hy T _ h (by simpa [hl] using hi) (by simp [hl]) (rowOne k l') (hK' _ _ hK)
theorem Blk.row (h : Blk k w b T l) (l' : List Int) : Blk k (w.setRow b (l'.map (Value.int k)).toArray) b T l' := setRow_heap w b _ _ T _ h
theorem Blk.otherRow (h : Blk k w b T l) (c : Nat) (cs : Array Value) (hb : b ≠ c) : Blk k (w.setRow c cs) b T l := (setRow_other w c b cs hb).trans h
theorem Below.setRow {B : Nat} {a w : World} (h : Below B a w) {b : Nat} (hb : B ≤ b) (cs : Array Value) : Below B a (w.setRow b cs) :=
  ⟨h.os, h.tape, h.output, by simp; exact h.size, fun i hi => (setRow_other w b i cs (by omega)).trans (h.block i hi)⟩
theorem Blk.result {P : Program} (h : Blk k w b T l) {fn : Func} {p : Tmp} (hr : fn.results = #[.cell p T]) (tmps : Array Value) (hp : tmps.getD p undef = .pointer (some ⟨b, 0, none⟩)) (n : Nat) (e : TypeId) (hu : P.underlying T = some (.array n e)) (hi : (P.info? T).map (·.size) = some l.length) :
    (results fn tmps).run P w = .ok (.agg (l.map (Value.int k)).toArray) w := results_cell_row hr tmps w b T _ (0, 0) _ hp h hu rfl (by simpa using hi)
end

theorem index_row {P : Program} {T e : TypeId} {n : Nat} {k : IntKind} {l : List Int} {i : Nat} (hu : P.underlying T = some (.array n e)) (he : P.underlying e = some (.int k)) (hi : (P.info? e).map (·.size) = some 1) (hl : l.length = n) (h : i < n) (w : World) :
    (Instr.index T (.agg (l.map (Value.int k)).toArray) (.int .i64 (i : Int))).run P w = .ok (.int k (l.getD i 0)) w := by
  have h2 : ((i : Int) < (n : Int)) := by omega
  have hagg : (isAgg e).run P w = .ok false w := by
    unfold isAgg
    rw [Sem.run_bind, run_underlying he w]
    rfl
  cases hq : P.info? e with
  | none => simp [hq] at hi
  | some j =>
    have hs : j.size = 1 := by simpa [hq] using hi
    simp [Instr.index, run_underlying hu, asIntOf, h2, go_sem, part, hagg, Sem.run_bind, sizeOf, typeInfo, hq, hs, List.getD_eq_getElem?_getD, hl, h]
/-- Block g begins with these numbers, and they may be written. -/
def RowB (k : IntKind) (w : World) (g : Nat) (l : List Int) : Prop := ∀ i, i < l.length → w.cell? ⟨g, i, none⟩ = some (.int k (l.getD i 0)) ∧ w.frozen? ⟨g, i, none⟩ = false
section
variable {k : IntKind} {w : World} {g : Nat} {l : List Int}
theorem RowB.drewN (h : RowB k w g l) (n : Nat) : RowB k (w.drewN n) g l := h
theorem RowB.below {B : Nat} {w' : World} (h : RowB k w g l) (hb : Below B w w') (hB : g < B) : RowB k w' g l := fun i hi =>
  ⟨(hb.cell (p := ⟨g, i, none⟩) hB).trans (h i hi).1, (hb.frozen (p := ⟨g, i, none⟩) hB).trans (h i hi).2⟩
theorem RowB.set (h : RowB k w g l) (j : Nat) (v : Int) (hj : j < l.length) : RowB k (w.setCell ⟨g, j, none⟩ (.int k v)) g (l.set j v) := by
  intro i hi
  rw [List.length_set] at hi
  obtain ⟨h1, h2⟩ := h i hi
  obtain ⟨h3, _⟩ := h j hj
  by_cases e : j = i
  · subst e
    simp [go_sem, h3, h2, hj]
  · have e' : ¬ i = j := fun h => e h.symm
    simp [go_sem, h1, h2, List.getD_eq_getElem?_getD, List.getElem?_set, e, e', hi]
theorem RowB.own {base n b cap : Nat} {E : TypeId} {vs : List Value} (h : w.ownsRow base E 1 (.slice (some ⟨b, 0, none⟩) n cap) n vs) (hvs : vs = l.map (Value.int k)) : RowB k w b l := by
  subst hvs
  have hn : l.length = n := by have := h.1; simpa using this
  intro i hi
  refine ⟨?_, h.frozenAt i⟩
  rw [h.cellAt i (by omega)]
  simp [List.getD_eq_getElem?_getD, hi]
theorem RowB.str {P : Program} {b n cap : Nat} (h : RowB .u8 w b l) (hn : l.length = n) (src dst e : TypeId) (hs : P.underlying src = some (.slice e)) (he : P.underlying e = some (.int .u8)) (hd : P.underlying dst = some .string) :
    (convert src dst (.slice (some ⟨b, 0, none⟩) n cap)).run P w = .ok (.string (strOfNums l)) w :=
  run_convert_bytes_arg w src e hs he b 0 n cap l hn (fun i hi => by rw [Nat.zero_add]; exact (h i (by omega)).1) dst hd
end
/-- Block g holds just these words (whether or not it may be written). -/
def TabB (w : World) (g : Nat) (l : List Int) : Prop := ∃ t fr, w.heap[g]? = some (.cells (l.map (Value.int .u32)).toArray t fr)
section
variable {w : World} {g : Nat} {l : List Int}
theorem TabB.lt (h : TabB w g l) : g < w.heap.size := by
  obtain ⟨t, fr, h⟩ := h
  by_cases hlt : g < w.heap.size
  · exact hlt
  · have hn : w.heap[g]? = none := by simp; omega
    rw [hn] at h; cases h
theorem TabB.cell (h : TabB w g l) (i : Nat) (hi : i < l.length) : w.cell? ⟨g, i, none⟩ = some (.int .u32 (l.getD i 0)) := by
  obtain ⟨t, fr, h⟩ := h
  rw [cell_of_row _ _ _ _ _ _ h]; simp [List.getD_eq_getElem?_getD, hi]
theorem TabB.below {w' : World} (h : TabB w g l) (hb : Below w.heap.size w w') : TabB w' g l := by
  have hl := h.lt
  obtain ⟨t, fr, h⟩ := h
  exact ⟨t, fr, (hb.block g hl).trans h⟩
end
/-- The program's two tables. -/
def Tabs (w : World) : Prop := TabB w 1 Sha.kL ∧ TabB w 0 Sha.hL
theorem Tabs.below {w w' : World} (h : Tabs w) (hb : Below w.heap.size w w') : Tabs w' := ⟨h.1.below hb, h.2.below hb⟩
end Go.Proofs.YtkjdfjpfghpofaaDoor
