/- The chapter's examples: sanity, the first half. -/
import Derived.Test.YtkjdfjpfghpofaaDoorUo
namespace Go.Proofs.YtkjdfjpfghpofaaDoor
open Go.RowKit

/-- The four leaves in memory. -/
structure San4 (w : World) (b1 b2 b3 b4 : Nat) (A B C D : List Int) (wr : World) : Prop where
  a : Blk .u8 wr b1 24 A
  b : Blk .u8 wr b2 24 B
  c : Blk .u8 wr b3 24 C
  d : Blk .u8 wr b4 24 D
  low : Below w.heap.size w wr
theorem San4.below {w wr w' : World} {b1 b2 b3 b4 : Nat} {A B C D : List Int} (h : San4 w b1 b2 b3 b4 A B C D wr) (hb : Below wr.heap.size wr w') : San4 w b1 b2 b3 b4 A B C D w' :=
  ⟨h.a.below hb h.a.lt, h.b.below hb h.b.lt, h.c.below hb h.c.lt, h.d.below hb h.d.lt, h.low.trans (hb.mono h.low.size)⟩
theorem blk_alloc2 {k : IntKind} {w : World} {T : TypeId} {l : List Int} (cs : Array Value) (hc : cs = (l.map (Value.int k)).toArray) (b : Nat) (hb : b = w.heap.size) : Blk k (w.alloc (.cells cs T)) b T l := hb ▸ Blk.new w l cs hc
/-- Four new blocks for hashes. -/
def San4Z (w4 W : World) : Prop := Blk .u8 W w4.heap.size 24 (List.replicate 32 0) ∧ Blk .u8 W (w4.heap.size + 1) 24 (List.replicate 32 0) ∧ Blk .u8 W (w4.heap.size + 1 + 1) 24 (List.replicate 32 0) ∧ Blk .u8 W (w4.heap.size + 1 + 1 + 1) 24 (List.replicate 32 0) ∧ Below w4.heap.size w4 W
theorem san4_zero (w4 : World) (zs : Array Value) (hz : zs = ((List.replicate 32 0).map (Value.int .u8)).toArray) :
    San4Z w4 ((((w4.alloc (.cells zs 24)).alloc (.cells zs 24)).alloc (.cells zs 24)).alloc (.cells zs 24)) :=
  ⟨(((blk_alloc2 zs hz _ rfl).alloc _).alloc _).alloc _, ((blk_alloc2 zs hz _ (by simp)).alloc _).alloc _, (blk_alloc2 zs hz _ (by simp)).alloc _, blk_alloc2 zs hz _ (by simp),
    ((((Below.refl _ w4).alloc (Nat.le_refl _) _).alloc (by simp) _).alloc (by simp; omega) _).alloc (by simp; omega) _⟩
theorem San4Z.k2 {w4 W : World} (h : San4Z w4 W) (A B C : List Int) :
    Blk .u8 (W.setRow w4.heap.size (A.map (Value.int .u8)).toArray) (w4.heap.size + 1) 24 (List.replicate 32 0) ∧
    Blk .u8 ((W.setRow w4.heap.size (A.map (Value.int .u8)).toArray).setRow (w4.heap.size + 1) (B.map (Value.int .u8)).toArray) (w4.heap.size + 1 + 1) 24 (List.replicate 32 0) ∧
    Blk .u8 (((W.setRow w4.heap.size (A.map (Value.int .u8)).toArray).setRow (w4.heap.size + 1) (B.map (Value.int .u8)).toArray).setRow (w4.heap.size + 1 + 1) (C.map (Value.int .u8)).toArray) (w4.heap.size + 1 + 1 + 1) 24 (List.replicate 32 0) :=
  ⟨h.2.1.otherRow _ _ (by omega), (h.2.2.1.otherRow _ _ (by omega)).otherRow _ _ (by omega), ((h.2.2.2.1.otherRow _ _ (by omega)).otherRow _ _ (by omega)).otherRow _ _ (by omega)⟩
theorem San4Z.all {w w4 W : World} (h : San4Z w4 W) (hb : Below w.heap.size w w4) (A B C D : List Int) :
    San4 w w4.heap.size (w4.heap.size + 1) (w4.heap.size + 1 + 1) (w4.heap.size + 1 + 1 + 1) A B C D ((((W.setRow w4.heap.size (A.map (Value.int .u8)).toArray).setRow (w4.heap.size + 1) (B.map (Value.int .u8)).toArray).setRow (w4.heap.size + 1 + 1) (C.map (Value.int .u8)).toArray).setRow (w4.heap.size + 1 + 1 + 1) (D.map (Value.int .u8)).toArray) := by
  obtain ⟨k1, k2, k3, k4, k5⟩ := h
  have hs := hb.size
  refine ⟨(((k1.row A).otherRow _ _ (by omega)).otherRow _ _ (by omega)).otherRow _ _ (by omega), (((k2.otherRow _ _ (by omega)).row B).otherRow _ _ (by omega)).otherRow _ _ (by omega), (((k3.otherRow _ _ (by omega)).otherRow _ _ (by omega)).row C).otherRow _ _ (by omega), (((k4.otherRow _ _ (by omega)).otherRow _ _ (by omega)).otherRow _ _ (by omega)).row D, ?_⟩
  exact Below.setRow (Below.setRow (Below.setRow (Below.setRow (hb.trans (k5.mono hs)) hs _) (by omega) _) (by omega) _) (by omega) _

theorem strs_new (w : World) (T : TypeId) (l : List ByteArray) (i : Nat) (hi : i < l.length) : (w.alloc (.cells (l.map Value.string).toArray T)).cell? ⟨w.heap.size, 0 + i, none⟩ = some (.string (l.getD i ByteArray.empty)) := by
  rw [Nat.zero_add]
  simp [go_sem, List.getD_eq_getElem?_getD, hi]
/-- The leaves, the strings, and the first node. -/
structure San6 (w : World) (b1 b2 b3 b4 b5 b6 : Nat) (A B C D E : List Int) (wr : World) : Prop where
  four : San4 w b1 b2 b3 b4 A B C D wr
  str : StrsAt wr b5 0 [⟨#[97]⟩, ⟨#[98]⟩, ⟨#[99]⟩, ⟨#[100]⟩]
  e : Blk .u8 wr b6 24 E
theorem San6.below {w wr w' : World} {b1 b2 b3 b4 b5 b6 : Nat} {A B C D E : List Int} (h : San6 w b1 b2 b3 b4 b5 b6 A B C D E wr) (hb : Below wr.heap.size wr w') : San6 w b1 b2 b3 b4 b5 b6 A B C D E w' :=
  ⟨h.four.below hb, h.str.below hb h.str.1, h.e.below hb h.e.lt⟩
theorem San6.three {w wr : World} {b1 b2 b3 b4 b5 b6 : Nat} {A B C D E : List Int} (h : San6 w b1 b2 b3 b4 b5 b6 A B C D E wr) : StrsAt wr b5 0 [⟨#[97]⟩, ⟨#[98]⟩, ⟨#[99]⟩] := h.str.take 3
theorem san6_start {w w5 : World} {b1 b2 b3 b4 b5 : Nat} {A B C D : List Int} (h : San4 w b1 b2 b3 b4 A B C D w5) (hs : StrsAt w5 b5 0 [⟨#[97]⟩, ⟨#[98]⟩, ⟨#[99]⟩, ⟨#[100]⟩]) (zs : Array Value) (hz : zs = ((List.replicate 32 0).map (Value.int .u8)).toArray) (E : List Int) :
    San6 w b1 b2 b3 b4 b5 w5.heap.size A B C D E ((w5.alloc (.cells zs 24)).setRow w5.heap.size (E.map (Value.int .u8)).toArray) := by
  have hb : Below w5.heap.size w5 ((w5.alloc (.cells zs 24)).setRow w5.heap.size (E.map (Value.int .u8)).toArray) := Below.setRow ((Below.refl _ w5).alloc (Nat.le_refl _) _) (Nat.le_refl _) _
  exact ⟨h.below hb, hs.below hb hs.1, (zeros_new w5 _ _ .u8 32 _ rfl hz).row E⟩

theorem Blk.range {k : IntKind} {w : World} {b : Nat} {T : TypeId} {l : List Int} (h : Blk k w b T l) : w.rangeAt b 0 (List.map (Value.int k) l) := fun j v hv => by
  rw [Nat.zero_add, cell_of_row _ _ _ _ _ _ h]
  simpa using hv
theorem zero_row (w : World) (zs : Array Value) (hz : zs = ((List.replicate 32 0).map (Value.int .u8)).toArray) :
    Blk .u8 ((w.alloc (.cells zs 24)).setRow w.heap.size ((List.replicate 32 0).map (Value.int .u8)).toArray) w.heap.size 24 (List.replicate 32 0) ∧ Below w.heap.size w ((w.alloc (.cells zs 24)).setRow w.heap.size ((List.replicate 32 0).map (Value.int .u8)).toArray) :=
  ⟨(zeros_new w _ _ .u8 32 _ rfl hz).row _, Below.setRow ((Below.refl _ w).alloc (Nat.le_refl _) _) (Nat.le_refl _) _⟩
theorem load_blk_g {k : IntKind} {w : World} {b : Nat} {T : TypeId} {l : List Int} {P : Program} {ops : Array Oper} {rest : List Oper} {o : Oper} {a : Act} {Q : Exit → Act → World → Prop} (h : Blk k w b T l) (hw : Region.wanted o (yielded ops a.tmps) = true) (x : Operand) (ho : o.op = .load T x)
    (hx : a.eval x = .pointer (some ⟨b, 0, none⟩)) (n : Nat) (e : TypeId) (hu : P.underlying T = some (.array n e)) (hi : (P.info? T).map (·.size) = some l.length)
    (hK : wpList P ops Q rest (a.put o.dst (.agg (l.map (Value.int k)).toArray)) w) : wpList P ops Q (o :: rest) a w :=
  wpList_step fun K hKK => by rw [if_pos hw]; exact wp_load_row T x ho b hx T _ (0, 0) _ h hu rfl (by simpa using hi) (hKK _ _ hK)
theorem fold_at (k : Nat) : ∀ (l : List Value) (j : Nat) (acc : Array Value), k + j + l.length ≤ acc.size → ((l.zipIdx j).foldl (fun cs x => cs.setIfInBounds (k + x.2) x.1) acc).toList = acc.toList.take (k + j) ++ l ++ acc.toList.drop (k + j + l.length) := by
  intro l
  induction l with
  | nil => intro j acc h; simp
  | cons a l ih =>
    intro j acc h
    simp only [List.length_cons] at h
    rw [List.zipIdx_cons, List.foldl_cons, ih (j + 1) _ (by simp; omega)]
    have hk : k + j < acc.toList.length := by simp; omega
    simp only [Array.toList_setIfInBounds]
    have e1 : (acc.toList.set (k + j) a)[k + j]? = some a := by rw [List.getElem?_set, if_pos rfl, if_pos hk]
    rw [show k + (j + 1) = k + j + 1 by omega, List.take_add_one, e1, List.take_set_of_le (Nat.le_refl _), List.drop_set_of_lt (by omega)]
    simp [Nat.add_assoc, Nat.add_comm 1]
theorem fold_size (k : Nat) (l : List (Value × Nat)) : ∀ (acc : Array Value), (l.foldl (fun cs x => cs.setIfInBounds (k + x.2) x.1) acc).size = acc.size := by
  induction l with
  | nil => intro acc; rfl
  | cons a l ih => intro acc; rw [List.foldl_cons, ih]; simp
theorem fold_size0 (l : List (Value × Nat)) : ∀ (acc : Array Value), (l.foldl (fun cs x => cs.setIfInBounds x.2 x.1) acc).size = acc.size := by
  induction l with
  | nil => intro acc; rfl
  | cons a l ih => intro acc; rw [List.foldl_cons, ih]; simp
theorem fold_zero (l : List Value) (acc : Array Value) (h : l.length ≤ acc.size) : (l.zipIdx.foldl (fun cs x => cs.setIfInBounds x.2 x.1) acc).toList = l ++ acc.toList.drop l.length := by
  have e := fold_at 0 l 0 acc (by omega)
  simpa using e
theorem fold_two (zs : Array Value) (B C : List Value) (hz : zs.size = 64) (hB : B.length = 32) (hC : C.length = 32) :
    (C.zipIdx.foldl (fun cs x => cs.setIfInBounds (32 + x.2) x.1) (B.zipIdx.foldl (fun cs x => cs.setIfInBounds x.2 x.1) zs)) = (B ++ C).toArray := by
  apply Array.ext'
  rw [fold_at 32 C 0 _ (by rw [fold_size0]; omega), fold_zero B zs (by omega), hB, hC]
  have hd : (zs.toList.drop 32).length = 32 := by simp [hz]
  rw [List.take_append_of_le_length (by omega), List.take_of_length_le (by omega), List.drop_eq_nil_of_le (by simp; omega)]
  simp
theorem fold_three (zs : Array Value) (B C D : List Value) (hz : zs.size = 96) (hB : B.length = 32) (hC : C.length = 32) (hD : D.length = 32) :
    (D.zipIdx.foldl (fun cs x => cs.setIfInBounds (64 + x.2) x.1) (C.zipIdx.foldl (fun cs x => cs.setIfInBounds (32 + x.2) x.1) (B.zipIdx.foldl (fun cs x => cs.setIfInBounds x.2 x.1) zs))) = (B ++ C ++ D).toArray := by
  apply Array.ext'
  rw [fold_at 64 D 0 _ (by rw [fold_size, fold_size0]; omega), fold_at 32 C 0 _ (by rw [fold_size0]; omega), fold_zero B zs (by omega), hB, hC, hD]
  have hd : (zs.toList.drop 32).length = 64 := by simp [hz]
  have e1 : (B ++ zs.toList.drop 32).take (32 + 0) = B := by rw [List.take_append_of_le_length (by omega), List.take_of_length_le (by omega)]
  have e2 : (B ++ zs.toList.drop 32).drop (32 + 0 + 32) = (zs.toList.drop 32).drop 32 := by rw [List.drop_append, List.drop_eq_nil_of_le (by omega), hB]; rfl
  rw [e1, e2, List.take_append_of_le_length (by simp; omega), List.take_of_length_le (by simp; omega), List.drop_eq_nil_of_le (by simp; omega)]
  simp
/-- A row that is written cell by cell. -/
theorem fold_setL (f : Array Value → Value × Nat → Array Value) (hf : f = fun cs x => cs.setIfInBounds x.2 x.1) (zs : Array Value) (l : List Value) (hz : zs.size = l.length) : List.foldl f zs l.zipIdx = l.toArray := by
  have e := fold_set f hf zs l.toArray l.length hz (by simp)
  simpa using e
/-- And the zero hash. -/
def San7 (w : World) (b1 b2 b3 b4 b5 b6 b17 : Nat) (A B C D E Z : List Int) (wr : World) : Prop := San6 w b1 b2 b3 b4 b5 b6 A B C D E wr ∧ Blk .u8 wr b17 24 Z
theorem San7.below {w wr w' : World} {b1 b2 b3 b4 b5 b6 b17 : Nat} {A B C D E Z : List Int} (h : San7 w b1 b2 b3 b4 b5 b6 b17 A B C D E Z wr) (hb : Below wr.heap.size wr w') : San7 w b1 b2 b3 b4 b5 b6 b17 A B C D E Z w' := ⟨h.1.below hb, h.2.below hb h.2.lt⟩
theorem San7.drew {w wr : World} {b1 b2 b3 b4 b5 b6 b17 : Nat} {A B C D E Z : List Int} (h : San7 w b1 b2 b3 b4 b5 b6 b17 A B C D E Z wr) : San7 w b1 b2 b3 b4 b5 b6 b17 A B C D E Z wr.drew := h.below ((Below.refl _ wr).drew)

/-- And what Path and Growth have returned. -/
def San8 (w : World) (b1 b2 b3 b4 b5 b6 b17 : Nat) (A B C D E Z : List Int) (px py pu pv pw : Value) (wr : World) : Prop := San7 w b1 b2 b3 b4 b5 b6 b17 A B C D E Z wr ∧ HashesV wr px [E] ∧ HashesV wr py [B, C] ∧ HashesV wr pu [C] ∧ HashesV wr pv [C, D, E] ∧ HashesV wr pw [B, C]
theorem San8.below {w wr w' : World} {b1 b2 b3 b4 b5 b6 b17 : Nat} {A B C D E Z : List Int} {px py pu pv pw : Value} (h : San8 w b1 b2 b3 b4 b5 b6 b17 A B C D E Z px py pu pv pw wr) (hb : Below wr.heap.size wr w') : San8 w b1 b2 b3 b4 b5 b6 b17 A B C D E Z px py pu pv pw w' :=
  ⟨h.1.below hb, h.2.1.below hb, h.2.2.1.below hb, h.2.2.2.1.below hb, h.2.2.2.2.1.below hb, h.2.2.2.2.2.below hb⟩
theorem San8.drew {w wr : World} {b1 b2 b3 b4 b5 b6 b17 : Nat} {A B C D E Z : List Int} {px py pu pv pw : Value} (h : San8 w b1 b2 b3 b4 b5 b6 b17 A B C D E Z px py pu pv pw wr) : San8 w b1 b2 b3 b4 b5 b6 b17 A B C D E Z px py pu pv pw wr.drew := h.below ((Below.refl _ wr).drew)
theorem hashes_new (w : World) (T : TypeId) (cs : Array Value) (hs : List (List Int)) (hl : ∀ x ∈ hs, x.length = 32) (hc : cs = (hs.flatMap hashC).toArray) (h0 : 0 < hs.length) (hm : hs.length ≤ 1000) (n : Nat) (hn : n = hs.length) : HashesV (w.alloc (.cells cs T)) (.slice (some ⟨w.heap.size, 0, none⟩) n n) hs := by
  subst hc hn
  refine ⟨hl, .inr ⟨h0, w.heap.size, 0, hs.length, rfl, by omega, by omega, by simp, fun i hi j u hu => ?_⟩⟩
  have hj : j < 32 := by
    have : j < (hashC hs[i]).length := (List.getElem?_eq_some_iff.1 hu).1
    simpa [hashC, hl _ (List.getElem_mem hi)] using this
  have e := flat_hash hs hl i j hi hj
  rw [hu] at e
  simp [go_sem, e]

set_option maxRecDepth 100000 in
set_option maxHeartbeats 4000000 in
theorem sanity_c (w : World) (ht : Tabs w) :
    Calls Tryd.prog 13 #[] w fun e w' => e = .returned (.bool true) ∧ Below w.heap.size w w' := by
  have HT := Lib.hid ht
  clear ht
  have L1 : Hid (∀ w', Tabs w' → Calls Tryd.prog 14 #[.string ⟨#[97]⟩] w' fun e w'' => e = .returned (hashV (Tree.leaf ⟨#[97]⟩)) ∧ Below w'.heap.size w' w'') := Lib.hid (fun w' h => leaf_c ⟨#[97]⟩ (by decide) w' h)
  have L2 : Hid (∀ w', Tabs w' → Calls Tryd.prog 14 #[.string ⟨#[98]⟩] w' fun e w'' => e = .returned (hashV (Tree.leaf ⟨#[98]⟩)) ∧ Below w'.heap.size w' w'') := Lib.hid (fun w' h => leaf_c ⟨#[98]⟩ (by decide) w' h)
  have L3 : Hid (∀ w', Tabs w' → Calls Tryd.prog 14 #[.string ⟨#[99]⟩] w' fun e w'' => e = .returned (hashV (Tree.leaf ⟨#[99]⟩)) ∧ Below w'.heap.size w' w'') := Lib.hid (fun w' h => leaf_c ⟨#[99]⟩ (by decide) w' h)
  have L4 : Hid (∀ w', Tabs w' → Calls Tryd.prog 14 #[.string ⟨#[100]⟩] w' fun e w'' => e = .returned (hashV (Tree.leaf ⟨#[100]⟩)) ∧ Below w'.heap.size w' w'') := Lib.hid (fun w' h => leaf_c ⟨#[100]⟩ (by decide) w' h)
  have hlen : ∀ s ∈ exS, s.size ≤ 140737488351232 := by intro s hs; simp [exS] at hs; rcases hs with rfl | rfl | rfl | rfl <;> decide
  have hlen3 : ∀ s ∈ exS.take 3, s.size ≤ 140737488351232 := fun s hs => hlen s (List.mem_of_mem_take hs)
  have P2 := fun (b : Nat) (w' : World) (h : Tabs w') (hs : StrsAt w' b 0 (exS.take 3)) => path_in (exS.take 3) b 0 4 3 2 rfl (by decide) (by decide) (by decide) hlen3 w' h hs
  have P0 := fun (b : Nat) (w' : World) (h : Tabs w') (hs : StrsAt w' b 0 (exS.take 3)) => path_in (exS.take 3) b 0 4 3 0 rfl (by decide) (by decide) (by decide) hlen3 w' h hs
  have G2 := fun (b : Nat) (w' : World) (h : Tabs w') (hs : StrsAt w' b 0 (exS.take 3)) => growth_in (exS.take 3) b 0 4 3 2 rfl (by decide) (by decide) (by decide) (by decide) hlen3 w' h hs
  have G3 := fun (b : Nat) (w' : World) (h : Tabs w') (hs : StrsAt w' b 0 exS) => growth_in exS b 0 4 4 3 rfl (by decide) (by decide) (by decide) (by decide) hlen w' h hs
  have G1 := fun (b : Nat) (w' : World) (h : Tabs w') (hs : StrsAt w' b 0 (exS.take 3)) => growth_in (exS.take 3) b 0 4 3 1 rfl (by decide) (by decide) (by decide) (by decide) hlen3 w' h hs
  have RT := fun (b : Nat) (w' : World) (h : Tabs w') (hs : StrsAt w' b 0 (exS.take 3)) => root_c b 0 4 3 (exS.take 3) rfl (by decide) (by decide) (by decide) hlen3 w' h hs
  have eT : exS.take 3 = [⟨#[97]⟩, ⟨#[98]⟩, ⟨#[99]⟩] := rfl
  have e4 : exS = [⟨#[97]⟩, ⟨#[98]⟩, ⟨#[99]⟩, ⟨#[100]⟩] := rfl
  simp only [eT, path32, path30, grow32, grow31, root3] at P2 P0 G2 G1 RT
  simp only [e4, grow43] at G3
  have hA := (leaf_hash ⟨#[97]⟩).1
  have hB := (leaf_hash ⟨#[98]⟩).1
  have hC := (leaf_hash ⟨#[99]⟩).1
  have hD := (leaf_hash ⟨#[100]⟩).1
  have hz := leafA
  obtain ⟨A, eA⟩ : ∃ A, Tree.leaf ⟨#[97]⟩ = A := ⟨_, rfl⟩
  obtain ⟨B, eB⟩ : ∃ A, Tree.leaf ⟨#[98]⟩ = A := ⟨_, rfl⟩
  obtain ⟨C, eC⟩ : ∃ A, Tree.leaf ⟨#[99]⟩ = A := ⟨_, rfl⟩
  obtain ⟨D, eD⟩ : ∃ A, Tree.leaf ⟨#[100]⟩ = A := ⟨_, rfl⟩
  simp only [eA, eB, eC, eD] at L1 L2 L3 L4 P2 P0 G2 G3 G1 RT hA hB hC hD hz
  clear eA eB eC eD
  have N1 := Lib.hid (fun w' h => node_c A B hA hB w' h)
  have hE := (node_hash A B).1
  obtain ⟨E, eE⟩ : ∃ E, Tree.node A B = E := ⟨_, rfl⟩
  simp only [eE] at N1 P2 P0 G2 G3 G1 RT hE
  have N2 := Lib.hid (fun w' h => node_c E C hE hC w' h)
  have hF := (node_hash E C).1
  obtain ⟨F, eF⟩ : ∃ F, Tree.node E C = F := ⟨_, rfl⟩
  simp only [eF] at N2 RT hF
  have HL := Lib.hid (And.intro hA (And.intro hB (And.intro hC (And.intro hD (And.intro hE hF)))))
  have HP2 := Lib.hid P2; have HP0 := Lib.hid P0; have HG2 := Lib.hid G2; have HG3 := Lib.hid G3; have HG1 := Lib.hid G1; have HRT := Lib.hid RT
  clear P2 P0 G2 G3 G1 RT hlen hlen3 eT e4 eE eF
  unfold hashV at L1 L2 L3 L4 N1 N2 HRT
  go_enter Tryd.func13, Tryd.ntmps13
  go_upto_region 1 with fail
  go_cut [1, 2, 3, 4] (fun p1 p2 p3 p4 wx => ∃ b1 b2 b3 b4, p1 = .pointer (some ⟨b1, 0, none⟩) ∧ p2 = .pointer (some ⟨b2, 0, none⟩) ∧ p3 = .pointer (some ⟨b3, 0, none⟩) ∧ p4 = .pointer (some ⟨b4, 0, none⟩) ∧ Hid (San4 w b1 b2 b3 b4 A B C D wx))
  case first =>
    go_wp2_with fail
    refine (L1.out _ HT.out).mono ?_; rintro e w1 ⟨rfl, hb⟩
    have B1 := Lib.hid hb; clear hb
    go_wp2_with fail
    refine (L2.out _ (HT.out.below B1.out)).mono ?_; rintro e w2 ⟨rfl, hb⟩
    have B2 := Lib.hid (B1.out.trans (hb.mono B1.out.size)); clear hb
    go_wp2_with fail
    refine (L3.out _ (HT.out.below B2.out)).mono ?_; rintro e w3 ⟨rfl, hb⟩
    have B3 := Lib.hid (B2.out.trans (hb.mono B2.out.size)); clear hb
    go_wp2_with fail
    refine (L4.out _ (HT.out.below B3.out)).mono ?_; rintro e w4 ⟨rfl, hb⟩
    have B4 := Lib.hid (B3.out.trans (hb.mono B3.out.size)); clear hb B1 B2 B3
    go_wp2_with (first
      | refine store_blk hK2.out.1 rfl _ _ rfl rfl B rfl HL.out.2.1 (by kernel_rfl) ?_
      | refine store_blk hK2.out.2.1 rfl _ _ rfl rfl C rfl HL.out.2.2.1 (by kernel_rfl) ?_
      | refine store_blk hK2.out.2.2 rfl _ _ rfl rfl D rfl HL.out.2.2.2.1 (by kernel_rfl) ?_
      | (generalize hW : ((((w4.alloc _).alloc _).alloc _).alloc _) = W; have hK : Hid (San4Z w4 W) := by { rw [← hW]; exact Lib.hid (san4_zero w4 _ (by rfl)) }; clear hW; have hK2 := Lib.hid (hK.out.k2 A B C); refine store_blk hK.out.1 rfl _ _ rfl rfl A rfl HL.out.1 (by kernel_rfl) ?_))
    go_meet
    case rel => exact ⟨_, _, _, _, rfl, rfl, rfl, rfl, Lib.hid (hK.out.all B4.out A B C D)⟩
  case rest =>
    clear L1 L2 L3 L4
    obtain ⟨x1, hx1⟩ : ∃ v, v = wc := ⟨_, rfl⟩
    subst hx1
    obtain ⟨b1, b2, b3, b4, rfl, rfl, rfl, rfl, hS⟩ := hcut
    go_upto_region 2 with fail
    go_cut [5] (fun v wx => ∃ b5, v = .slice (some ⟨b5, 0, none⟩) 4 4 ∧ Hid (San4 w b1 b2 b3 b4 A B C D wx ∧ StrsAt wx b5 0 [⟨#[97]⟩, ⟨#[98]⟩, ⟨#[99]⟩, ⟨#[100]⟩]))
    case first =>
      go_wp2_with fail
      go_meet
      case rel => exact ⟨_, rfl, Lib.hid ⟨hS.out.below ((Below.refl _ _).alloc (Nat.le_refl _) _), by simp, fun i hi => strs_new _ _ _ i hi⟩⟩
    case rest =>
      obtain ⟨x2, hx2⟩ : ∃ v, v = wc := ⟨_, rfl⟩
      subst hx2
      clear hS
      obtain ⟨b5, rfl, hS⟩ := hcut
      go_upto_region 3 with fail
      go_cut [6] (fun v wx => ∃ b6, v = .pointer (some ⟨b6, 0, none⟩) ∧ Hid (San6 w b1 b2 b3 b4 b5 b6 A B C D E wx))
      case first =>
        go_wp2_with (first
          | refine load_blk hS.out.1.a rfl _ rfl rfl 32 5 (by kernel_rfl) (by rw [hA]; kernel_rfl) ?_
          | refine load_blk hS.out.1.b rfl _ rfl rfl 32 5 (by kernel_rfl) (by rw [hB]; kernel_rfl) ?_
          | (go_at_call 18; refine (N1.out _ (HT.out.below hS.out.1.low)).mono ?_; rintro e w5 ⟨rfl, hb⟩; have hQ : Hid (San4 w b1 b2 b3 b4 A B C D w5 ∧ StrsAt w5 b5 0 [⟨#[97]⟩, ⟨#[98]⟩, ⟨#[99]⟩, ⟨#[100]⟩]) := Lib.hid ⟨hS.out.1.below hb, hS.out.2.below hb hS.out.2.1⟩; clear hb)
          | refine store_blk (b := w5.heap.size) (l := List.replicate 32 0) (zeros_new w5 _ _ .u8 32 _ rfl (by rfl)) rfl _ _ rfl rfl E rfl hE (by kernel_rfl) ?_)
        go_meet
        case rel => exact ⟨_, rfl, Lib.hid (san6_start hQ.out.1 hQ.out.2 _ (by rfl) E)⟩
      case rest =>
        obtain ⟨x3, hx3⟩ : ∃ v, v = wc := ⟨_, rfl⟩
        subst hx3
        clear hS N1
        obtain ⟨b6, rfl, hS⟩ := hcut
        go_wp2_with fail
        refine (HP2.out b5 _ (HT.out.below hS.out.four.low) hS.out.three).mono ?_
        rintro e w1 ⟨px, rfl, hx, hb⟩
        have hS := Lib.hid (hS.out.below hb)
        have V1 := Lib.hid (hashes_of_own hx (by intro q hq; simp at hq; subst hq; exact hE))
        clear hx hb
        go_wp2_with fail
        refine (HP0.out b5 _ (HT.out.below hS.out.four.low) hS.out.three).mono ?_
        rintro e w2 ⟨py, rfl, hx, hb⟩
        have hS := Lib.hid (hS.out.below hb)
        have V1 := Lib.hid (V1.out.below hb)
        have V2 := Lib.hid (hashes_of_own hx (by intro q hq; simp at hq; rcases hq with rfl | rfl; exact hB; exact hC))
        clear hx hb
        go_wp2_with fail
        refine (HG2.out b5 _ (HT.out.below hS.out.four.low) hS.out.three).mono ?_
        rintro e w3 ⟨pu, rfl, hx, hb⟩
        have hS := Lib.hid (hS.out.below hb)
        have V1 := Lib.hid (V1.out.below hb)
        have V2 := Lib.hid (V2.out.below hb)
        have V3 := Lib.hid (hashes_of_own hx (by intro q hq; simp at hq; subst hq; exact hC))
        clear hx hb
        go_wp2_with fail
        refine (HG3.out b5 _ (HT.out.below hS.out.four.low) hS.out.str).mono ?_
        rintro e w4 ⟨pv, rfl, hx, hb⟩
        have hS := Lib.hid (hS.out.below hb)
        have V1 := Lib.hid (V1.out.below hb)
        have V2 := Lib.hid (V2.out.below hb)
        have V3 := Lib.hid (V3.out.below hb)
        have V4 := Lib.hid (hashes_of_own hx (by intro q hq; simp at hq; rcases hq with rfl | rfl | rfl; exact hC; exact hD; exact hE))
        clear hx hb
        go_wp2_with fail
        refine (HG1.out b5 _ (HT.out.below hS.out.four.low) hS.out.three).mono ?_
        rintro e w5 ⟨pw, rfl, hx, hb⟩
        have hS := Lib.hid (hS.out.below hb)
        have V1 := Lib.hid (V1.out.below hb)
        have V2 := Lib.hid (V2.out.below hb)
        have V3 := Lib.hid (V3.out.below hb)
        have V4 := Lib.hid (V4.out.below hb)
        have V5 := Lib.hid (hashes_of_own hx (by intro q hq; simp at hq; rcases hq with rfl | rfl; exact hB; exact hC))
        clear hx hb
        go_upto_region 9 with fail
        go_cut [17] (fun v wx => ∃ b17, v = .pointer (some ⟨b17, 0, none⟩) ∧ Hid (San7 w b1 b2 b3 b4 b5 b6 b17 A B C D E (List.replicate 32 0) wx) ∧ Hid (HashesV wx px [E] ∧ HashesV wx py [B, C] ∧ HashesV wx pu [C] ∧ HashesV wx pv [C, D, E] ∧ HashesV wx pw [B, C]))
        case first =>
          go_wp2_with (refine store_blk (b := w5.heap.size) (l := List.replicate 32 0) (zeros_new w5 _ _ .u8 32 _ rfl (by rfl)) rfl _ _ rfl rfl (List.replicate 32 0) rfl rfl (by kernel_rfl) ?_)
          go_meet
          case rel =>
            have hb := zero_row w5 _ (by rfl)
            exact ⟨_, rfl, Lib.hid ⟨hS.out.below hb.2, hb.1⟩, Lib.hid ⟨V1.out.below hb.2, V2.out.below hb.2, V3.out.below hb.2, V4.out.below hb.2, V5.out.below hb.2⟩⟩
        case rest =>
          obtain ⟨x4, hx4⟩ : ∃ v, v = wc := ⟨_, rfl⟩
          subst hx4
          clear hS V1 V2 V3 V4 V5
          obtain ⟨b17, rfl, hQ, hV⟩ := hcut
          have hZl : (List.replicate 32 (0 : Int)).length = 32 := rfl
          obtain ⟨Z, eZ⟩ : ∃ Z, List.replicate 32 (0 : Int) = Z := ⟨_, rfl⟩
          rw [eZ] at hQ hz hZl
          clear eZ
          have hu := Tryd.underlying24
          have hiA : (Tryd.prog.info? 24).map (·.size) = some (List.map (Value.int .u8) A).length := by rw [List.length_map, hA]; kernel_rfl
          have hiE : (Tryd.prog.info? 24).map (·.size) = some (List.map (Value.int .u8) E).length := by rw [List.length_map, hE]; kernel_rfl
          have hiC : (Tryd.prog.info? 24).map (·.size) = some (List.map (Value.int .u8) C).length := by rw [List.length_map, hC]; kernel_rfl
          have hiZ : (Tryd.prog.info? 24).map (·.size) = some (List.map (Value.int .u8) Z).length := by rw [List.length_map, hZl]; kernel_rfl
          have hq0 := fun w' => hash_eq A Z hA hZl w'
          have hq1 := fun w' => hash_eq F F hF hF w'
          simp only [hz] at hq0
          simp only [beq_self_eq_true] at hq1
          clear HP2 HP0 HG2 HG3 HG1 hz
          have hQ : Hid (San8 w b1 b2 b3 b4 b5 b6 b17 A B C D E Z px py pu pv pw x4) := Lib.hid ⟨hQ.out, hV.out⟩
          clear hV
          go_upto_region 10 with fail
          go_cut [87] (fun v wx => v = .bool false ∧ Hid (San8 w b1 b2 b3 b4 b5 b6 b17 A B C D E Z px py pu pv pw wx))
          case first =>
            refine wp_region_held_drew (S := fun w' => w'.rangeAt b1 0 (List.map (Value.int .u8) A) ∧ w'.rangeAt b17 0 (List.map (Value.int .u8) Z) ∧ w'.rangeAt b6 0 (List.map (Value.int .u8) E) ∧ w'.rangeAt b3 0 (List.map (Value.int .u8) C)) (by kernel_rfl) (by exact ⟨hQ.out.1.1.four.a.range, hQ.out.1.2.range, hQ.out.1.1.e.range, hQ.out.1.1.four.c.range⟩) (fun hHeld => ?_)
            refine wpAnyH_take (i := 0) (oi := _) (v := _) rfl (by kernel_rfl) (by kernel_rfl) (by kernel_rfl) (fun _ _ _ h => h) (yieldsIf_load_mid (by kernel_rfl) _ _ rfl (b1) 0 (by kernel_rfl) (List.map (Value.int .u8) A) _ (fun w h => h.1) hu rfl hiA) (by assumption) ?_
            (try simp only [Act.put, List.setIfInBounds_toArray])
            refine wpAnyH_take (i := 1) (oi := _) (v := _) rfl (by kernel_rfl) (by kernel_rfl) (by kernel_rfl) (fun _ _ _ h => h) (yieldsIf_load_mid (by kernel_rfl) _ _ rfl (b17) 0 (by kernel_rfl) (List.map (Value.int .u8) Z) _ (fun w h => h.2.1) hu rfl hiZ) (by assumption) ?_
            (try simp only [Act.put])
            refine wpAnyH_take (i := 2) (oi := _) (v := ?_) rfl (by kernel_rfl) (by kernel_rfl) (by kernel_rfl) (fun _ _ _ h => h) (Or.inl ⟨by kernel_rfl, ?_⟩) (by assumption) ?_
            rotate_left
            · (intro w hSw; (try dsimp only at hSw); go_simp; try with_reducible rfl)
            (try simp only [Act.put])
            refine wpAnyH_take (i := 3) (oi := _) (v := ?_) rfl (by kernel_rfl) (by kernel_rfl) (by kernel_rfl) (fun _ _ _ h => h) (Or.inl ⟨by kernel_rfl, ?_⟩) (by assumption) ?_
            rotate_left
            · (intro w hSw; (try dsimp only at hSw); go_simp; try with_reducible rfl)
            (try simp only [Act.put])
            refine wpAnyH_take (i := 4) (oi := _) (v := ?_) rfl (by kernel_rfl) (by kernel_rfl) (by kernel_rfl) (fun _ _ _ h => h) (Or.inl ⟨by kernel_rfl, ?_⟩) (by assumption) ?_
            rotate_left
            · (intro w hSw; (try dsimp only at hSw); go_simp; try with_reducible rfl)
            (try simp only [Act.put])
            refine wpAnyH_take (i := 5) (oi := _) (v := ?_) rfl (by kernel_rfl) (by kernel_rfl) (by kernel_rfl) (fun _ _ _ h => h) (Or.inl ⟨by kernel_rfl, ?_⟩) (by assumption) ?_
            rotate_left
            · (intro w hSw; (try dsimp only at hSw); go_simp; try with_reducible rfl)
            (try simp only [Act.put])
            refine wpAnyH_take (i := 7) (oi := _) (v := _) rfl (by kernel_rfl) (by kernel_rfl) (by kernel_rfl) (fun _ _ _ h => h) (yieldsIf_load_mid (by kernel_rfl) _ _ rfl (b6) 0 (by kernel_rfl) (List.map (Value.int .u8) E) _ (fun w h => h.2.2.1) hu rfl hiE) (by assumption) ?_
            (try simp only [Act.put])
            refine wpAnyH_take (i := 8) (oi := _) (v := _) rfl (by kernel_rfl) (by kernel_rfl) (by kernel_rfl) (fun _ _ _ h => h) (yieldsIf_load_mid (by kernel_rfl) _ _ rfl (b3) 0 (by kernel_rfl) (List.map (Value.int .u8) C) _ (fun w h => h.2.2.2) hu rfl hiC) (by assumption) ?_
            (try simp only [Act.put])
            refine wpAnyH_ready (rs := [6]) (by kernel_rfl) (by simp) ?_
            refine AllReadyH.cons (o := _) rfl (fun K hK => ?_) AllReadyH.nil
            go_simp
            go_at_call 16
            refine (HRT.out b5 _ (HT.out.below (by first | exact hQ.out.1.1.four.low | exact hQ.out.1.1.four.low.drew)) (by exact hQ.out.1.1.three)).mono ?_; rintro e wr ⟨rfl, hb⟩
            have hQ := Lib.hid (San8.below (by first | exact hQ.out | exact hQ.out.drew) hb); clear hb
            refine hK.out _ _ (by exact ⟨hQ.out.1.1.four.a.range, hQ.out.1.2.range, hQ.out.1.1.e.range, hQ.out.1.1.four.c.range⟩) (fun hHeld => ?_)
            clear hK K
            (try simp only [Act.put, List.setIfInBounds_toArray, List.set_cons_zero, List.set_cons_succ])
            refine wpAnyH_ready (rs := [9]) (by kernel_rfl) (by simp) ?_
            refine AllReadyH.cons (o := _) rfl (fun K hK => ?_) AllReadyH.nil
            go_simp
            go_at_call 18
            refine (N2.out _ (HT.out.below hQ.out.1.1.four.low)).mono ?_; rintro e wn ⟨rfl, hb⟩
            have hQ := Lib.hid (San8.below (by first | exact hQ.out | exact hQ.out.drew) hb); clear hb
            refine hK.out _ _ (by exact ⟨hQ.out.1.1.four.a.range, hQ.out.1.2.range, hQ.out.1.1.e.range, hQ.out.1.1.four.c.range⟩) (fun hHeld => ?_)
            clear hK K
            (try simp only [Act.put, List.setIfInBounds_toArray, List.set_cons_zero, List.set_cons_succ])
            refine wpAnyH_take (i := 10) (oi := _) (v := ?_) rfl (by kernel_rfl) (by kernel_rfl) (by kernel_rfl) (fun _ _ _ h => h) (Or.inl ⟨by kernel_rfl, ?_⟩) (by assumption) ?_
            rotate_left
            · (intro w hSw; (try dsimp only at hSw); go_simp; try with_reducible rfl)
            (try simp only [Act.put, List.setIfInBounds_toArray])
            refine wpAnyH_take (i := 11) (oi := _) (v := ?_) rfl (by kernel_rfl) (by kernel_rfl) (by kernel_rfl) (fun _ _ _ h => h) (Or.inl ⟨by kernel_rfl, ?_⟩) (by assumption) ?_
            rotate_left
            · (intro w hSw; (try dsimp only at hSw); go_simp; try with_reducible rfl)
            (try simp only [Act.put])
            refine wpAnyH_take (i := 12) (oi := _) (v := ?_) rfl (by kernel_rfl) (by kernel_rfl) (by kernel_rfl) (fun _ _ _ h => h) (Or.inl ⟨by kernel_rfl, ?_⟩) (by assumption) ?_
            rotate_left
            · (intro w hSw; (try dsimp only at hSw); go_simp; try with_reducible rfl)
            (try simp only [Act.put])
            refine wpAnyH_take (i := 13) (oi := _) (v := ?_) rfl (by kernel_rfl) (by kernel_rfl) (by kernel_rfl) (fun _ _ _ h => h) (Or.inl ⟨by kernel_rfl, ?_⟩) (by assumption) ?_
            rotate_left
            · (intro w hSw; (try dsimp only at hSw); go_simp; try with_reducible rfl)
            (try simp only [Act.put])
            refine wpAnyH_take (i := 14) (oi := _) (v := ?_) rfl (by kernel_rfl) (by kernel_rfl) (by kernel_rfl) (fun _ _ _ h => h) (Or.inl ⟨by kernel_rfl, ?_⟩) (by assumption) ?_
            rotate_left
            · (intro w hSw; (try dsimp only at hSw); go_simp; try with_reducible rfl)
            (try simp only [Act.put])
            refine wpAnyH_take (i := 15) (oi := _) (v := ?_) rfl (by kernel_rfl) (by kernel_rfl) (by kernel_rfl) (fun _ _ _ h => h) (Or.inl ⟨by kernel_rfl, ?_⟩) (by assumption) ?_
            rotate_left
            · (intro w hSw; (try dsimp only at hSw); go_simp; try with_reducible rfl)
            (try simp only [Act.put])
            refine wpAnyH_take (i := 16) (oi := _) (v := ?_) rfl (by kernel_rfl) (by kernel_rfl) (by kernel_rfl) (fun _ _ _ h => h) (Or.inl ⟨by kernel_rfl, ?_⟩) (by assumption) ?_
            rotate_left
            · (intro w hSw; (try dsimp only at hSw); go_simp; try with_reducible rfl)
            (try simp only [Act.put])
            refine wpAnyH_take (i := 17) (oi := _) (v := ?_) rfl (by kernel_rfl) (by kernel_rfl) (by kernel_rfl) (fun _ _ _ h => h) (Or.inl ⟨by kernel_rfl, ?_⟩) (by assumption) ?_
            rotate_left
            · (intro w hSw; (try dsimp only at hSw); go_simp; try with_reducible rfl)
            (try simp only [Act.put])
            refine wpAnyH_take (i := 18) (oi := _) (v := ?_) rfl (by kernel_rfl) (by kernel_rfl) (by kernel_rfl) (fun _ _ _ h => h) (Or.inl ⟨by kernel_rfl, ?_⟩) (by assumption) ?_
            rotate_left
            · (intro w hSw; (try dsimp only at hSw); go_simp; try with_reducible rfl)
            (try simp only [Act.put])
            refine wpAnyH_take (i := 19) (oi := _) (v := ?_) rfl (by kernel_rfl) (by kernel_rfl) (by kernel_rfl) (fun _ _ _ h => h) (Or.inl ⟨by kernel_rfl, ?_⟩) (by assumption) ?_
            rotate_left
            · (intro w hSw; (try dsimp only at hSw); go_simp; try with_reducible rfl)
            (try simp only [Act.put])
            refine wpAnyH_take (i := 20) (oi := _) (v := ?_) rfl (by kernel_rfl) (by kernel_rfl) (by kernel_rfl) (fun _ _ _ h => h) (Or.inl ⟨by kernel_rfl, ?_⟩) (by assumption) ?_
            rotate_left
            · (intro w hSw; (try dsimp only at hSw); go_simp; try with_reducible rfl)
            (try simp only [Act.put])
            refine wpAnyH_take (i := 21) (oi := _) (v := ?_) rfl (by kernel_rfl) (by kernel_rfl) (by kernel_rfl) (fun _ _ _ h => h) (Or.inl ⟨by kernel_rfl, ?_⟩) (by assumption) ?_
            rotate_left
            · (intro w hSw; (try dsimp only at hSw); go_simp; try with_reducible rfl)
            (try simp only [Act.put])
            refine wpAnyH_take (i := 22) (oi := _) (v := ?_) rfl (by kernel_rfl) (by kernel_rfl) (by kernel_rfl) (fun _ _ _ h => h) (Or.inl ⟨by kernel_rfl, ?_⟩) (by assumption) ?_
            rotate_left
            · (intro w hSw; (try dsimp only at hSw); go_simp; try with_reducible rfl)
            (try simp only [Act.put])
            refine wpAnyH_take (i := 23) (oi := _) (v := ?_) rfl (by kernel_rfl) (by kernel_rfl) (by kernel_rfl) (fun _ _ _ h => h) (Or.inl ⟨by kernel_rfl, ?_⟩) (by assumption) ?_
            rotate_left
            · (intro w hSw; (try dsimp only at hSw); go_simp; try with_reducible rfl)
            (try simp only [Act.put])
            refine wpAnyH_take (i := 24) (oi := _) (v := ?_) rfl (by kernel_rfl) (by kernel_rfl) (by kernel_rfl) (fun _ _ _ h => h) (Or.inl ⟨by kernel_rfl, ?_⟩) (by assumption) ?_
            rotate_left
            · (intro w hSw; (try dsimp only at hSw); go_simp; try with_reducible rfl)
            (try simp only [Act.put])
            refine wpAnyH_take (i := 25) (oi := _) (v := ?_) rfl (by kernel_rfl) (by kernel_rfl) (by kernel_rfl) (fun _ _ _ h => h) (Or.inl ⟨by kernel_rfl, ?_⟩) (by assumption) ?_
            rotate_left
            · (intro w hSw; (try dsimp only at hSw); go_simp; try with_reducible rfl)
            (try simp only [Act.put])
            refine wpAnyH_take (i := 26) (oi := _) (v := ?_) rfl (by kernel_rfl) (by kernel_rfl) (by kernel_rfl) (fun _ _ _ h => h) (Or.inl ⟨by kernel_rfl, ?_⟩) (by assumption) ?_
            rotate_left
            · (intro w hSw; (try dsimp only at hSw); go_simp; try with_reducible rfl)
            (try simp only [Act.put])
            refine wpAnyH_take (i := 27) (oi := _) (v := ?_) rfl (by kernel_rfl) (by kernel_rfl) (by kernel_rfl) (fun _ _ _ h => h) (Or.inl ⟨by kernel_rfl, ?_⟩) (by assumption) ?_
            rotate_left
            · (intro w hSw; (try dsimp only at hSw); go_simp; try with_reducible rfl)
            (try simp only [Act.put])
            refine wpAnyH_take (i := 28) (oi := _) (v := ?_) rfl (by kernel_rfl) (by kernel_rfl) (by kernel_rfl) (fun _ _ _ h => h) (Or.inl ⟨by kernel_rfl, ?_⟩) (by assumption) ?_
            rotate_left
            · (intro w hSw; (try dsimp only at hSw); go_simp; try with_reducible rfl)
            (try simp only [Act.put])
            refine wpAnyH_take (i := 29) (oi := _) (v := ?_) rfl (by kernel_rfl) (by kernel_rfl) (by kernel_rfl) (fun _ _ _ h => h) (Or.inl ⟨by kernel_rfl, ?_⟩) (by assumption) ?_
            rotate_left
            · (intro w hSw; (try dsimp only at hSw); go_simp; try with_reducible rfl)
            (try simp only [Act.put])
            refine wpAnyH_take (i := 30) (oi := _) (v := ?_) rfl (by kernel_rfl) (by kernel_rfl) (by kernel_rfl) (fun _ _ _ h => h) (Or.inl ⟨by kernel_rfl, ?_⟩) (by assumption) ?_
            rotate_left
            · (intro w hSw; (try dsimp only at hSw); go_simp; try with_reducible rfl)
            (try simp only [Act.put])
            refine wpAnyH_take (i := 31) (oi := _) (v := ?_) rfl (by kernel_rfl) (by kernel_rfl) (by kernel_rfl) (fun _ _ _ h => h) (Or.inl ⟨by kernel_rfl, ?_⟩) (by assumption) ?_
            rotate_left
            · (intro w hSw; (try dsimp only at hSw); go_simp; try with_reducible rfl)
            (try simp only [Act.put])
            refine wpAnyH_done (by kernel_rfl) ?_ _
            simp [Act.put]
            go_wp2
            go_meet
            case rel => exact ⟨rfl, hQ⟩
          case rest =>
            obtain ⟨x6, hx6⟩ : ∃ v, v = wc := ⟨_, rfl⟩
            subst hx6
            obtain ⟨rfl, hQ⟩ := hcut
            clear hS V1 V2 V3 V4
            clear hiA hiE hiC hiZ hq0 hq1 HRT N2 hu hA hF
            have hfs := fold_size0
            have hfs2 := fold_size 32
            have hfs3 := fold_size 64
            go_wp2_with (first
              | refine load_blk hQ.out.1.1.e rfl _ rfl rfl 32 5 (by kernel_rfl) (by rw [hE]; kernel_rfl) ?_)
            generalize hW : (x6.alloc _) = W0
            have hb1 : Below x6.heap.size x6 W0 := by rw [← hW]; exact (Below.refl _ x6).alloc (Nat.le_refl _) _
            have hN1 : HashesV W0 (.slice (some ⟨x6.heap.size, 0, none⟩) 1 1) [E] := by
              rw [← hW]
              exact hashes_new x6 _ _ [E] (by intro q hq; simp at hq; subst hq; exact hE) (by rw [fold_setL _ rfl _ _ (by simp [hE])]; simp [hashC]) (by simp) (by simp) 1 rfl
            have hQ1 := Lib.hid (hQ.out.below hb1)
            clear hW hb1 hQ
            refine (same_c _ _ [E] [E] W0 hQ1.out.2.1 hN1 (by simp) (by simp)).mono ?_
            rintro e y0 ⟨rfl, hb⟩
            have hQ := Lib.hid (hQ1.out.below hb)
            clear hb hN1 hQ1
            rw [beq_self_eq_true]
            go_wp2_with (first
              | refine load_blk_g hQ.out.1.1.four.b (by kernel_rfl) _ rfl rfl 32 5 (by kernel_rfl) (by rw [hB]; kernel_rfl) ?_
              | refine load_blk_g hQ.out.1.1.four.c (by kernel_rfl) _ rfl rfl 32 5 (by kernel_rfl) (by rw [hC]; kernel_rfl) ?_)
            generalize hW : (y0.alloc _) = W1
            have hb1 : Below y0.heap.size y0 W1 := by rw [← hW]; exact (Below.refl _ y0).alloc (Nat.le_refl _) _
            have hN1 : HashesV W1 (.slice (some ⟨y0.heap.size, 0, none⟩) 2 2) [B, C] := by
              rw [← hW]
              exact hashes_new y0 _ _ [B, C] (by intro q hq; simp at hq; rcases hq with rfl | rfl; exact hB; exact hC) (by rw [fold_two _ _ _ (by rfl) (by simp [hB]) (by simp [hC])]; simp [hashC]) (by simp) (by simp) 2 rfl
            have hQ1 := Lib.hid (hQ.out.below hb1)
            clear hW hb1 hQ
            refine (same_c _ _ [B, C] [B, C] W1 hQ1.out.2.2.1 hN1 (by simp) (by simp)).mono ?_
            rintro e y1 ⟨rfl, hb⟩
            have hQ := Lib.hid (hQ1.out.below hb)
            clear hb hN1 hQ1
            rw [beq_self_eq_true]
            go_wp2_with (first
              | refine load_blk_g hQ.out.1.1.four.c (by kernel_rfl) _ rfl rfl 32 5 (by kernel_rfl) (by rw [hC]; kernel_rfl) ?_)
            generalize hW : (y1.alloc _) = W2
            have hb1 : Below y1.heap.size y1 W2 := by rw [← hW]; exact (Below.refl _ y1).alloc (Nat.le_refl _) _
            have hN1 : HashesV W2 (.slice (some ⟨y1.heap.size, 0, none⟩) 1 1) [C] := by
              rw [← hW]
              exact hashes_new y1 _ _ [C] (by intro q hq; simp at hq; subst hq; exact hC) (by rw [fold_setL _ rfl _ _ (by simp [hC])]; simp [hashC]) (by simp) (by simp) 1 rfl
            have hQ1 := Lib.hid (hQ.out.below hb1)
            clear hW hb1 hQ
            refine (same_c _ _ [C] [C] W2 hQ1.out.2.2.2.1 hN1 (by simp) (by simp)).mono ?_
            rintro e y2 ⟨rfl, hb⟩
            have hQ := Lib.hid (hQ1.out.below hb)
            clear hb hN1 hQ1
            rw [beq_self_eq_true]
            go_wp2_with (first
              | refine load_blk_g hQ.out.1.1.four.c (by kernel_rfl) _ rfl rfl 32 5 (by kernel_rfl) (by rw [hC]; kernel_rfl) ?_
              | refine load_blk_g hQ.out.1.1.four.d (by kernel_rfl) _ rfl rfl 32 5 (by kernel_rfl) (by rw [hD]; kernel_rfl) ?_
              | refine load_blk_g hQ.out.1.1.e (by kernel_rfl) _ rfl rfl 32 5 (by kernel_rfl) (by rw [hE]; kernel_rfl) ?_)
            generalize hW : (y2.alloc _) = W3
            have hb1 : Below y2.heap.size y2 W3 := by rw [← hW]; exact (Below.refl _ y2).alloc (Nat.le_refl _) _
            have hN1 : HashesV W3 (.slice (some ⟨y2.heap.size, 0, none⟩) 3 3) [C, D, E] := by
              rw [← hW]
              exact hashes_new y2 _ _ [C, D, E] (by intro q hq; simp at hq; rcases hq with rfl | rfl | rfl; exact hC; exact hD; exact hE) (by rw [fold_three _ _ _ _ (by rfl) (by simp [hC]) (by simp [hD]) (by simp [hE])]; simp [hashC]) (by simp) (by simp) 3 rfl
            have hQ1 := Lib.hid (hQ.out.below hb1)
            clear hW hb1 hQ
            refine (same_c _ _ [C, D, E] [C, D, E] W3 hQ1.out.2.2.2.2.1 hN1 (by simp) (by simp)).mono ?_
            rintro e y3 ⟨rfl, hb⟩
            have hQ := Lib.hid (hQ1.out.below hb)
            clear hb hN1 hQ1
            rw [beq_self_eq_true]
            go_wp2_with (first
              | refine load_blk_g hQ.out.1.1.four.b (by kernel_rfl) _ rfl rfl 32 5 (by kernel_rfl) (by rw [hB]; kernel_rfl) ?_
              | refine load_blk_g hQ.out.1.1.four.c (by kernel_rfl) _ rfl rfl 32 5 (by kernel_rfl) (by rw [hC]; kernel_rfl) ?_)
            generalize hW : (y3.alloc _) = W4
            have hb1 : Below y3.heap.size y3 W4 := by rw [← hW]; exact (Below.refl _ y3).alloc (Nat.le_refl _) _
            have hN1 : HashesV W4 (.slice (some ⟨y3.heap.size, 0, none⟩) 2 2) [B, C] := by
              rw [← hW]
              exact hashes_new y3 _ _ [B, C] (by intro q hq; simp at hq; rcases hq with rfl | rfl; exact hB; exact hC) (by rw [fold_two _ _ _ (by rfl) (by simp [hB]) (by simp [hC])]; simp [hashC]) (by simp) (by simp) 2 rfl
            have hQ1 := Lib.hid (hQ.out.below hb1)
            clear hW hb1 hQ
            refine (same_c _ _ [B, C] [B, C] W4 hQ1.out.2.2.2.2.2 hN1 (by simp) (by simp)).mono ?_
            rintro e y4 ⟨rfl, hb⟩
            have hQ := Lib.hid (hQ1.out.below hb)
            clear hb hN1 hQ1
            rw [beq_self_eq_true]
            go_wp2
            go_ret
            exact ⟨rfl, hQ.out.1.1.four.low⟩
end Go.Proofs.YtkjdfjpfghpofaaDoor
