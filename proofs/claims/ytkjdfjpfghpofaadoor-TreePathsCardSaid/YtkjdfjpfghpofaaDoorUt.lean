/- CheckPath of the program. -/
import Derived.Test.YtkjdfjpfghpofaaDoorUs
import Derived.Test.YtkjdfjpfghpofaaDoorUo
import Derived.StillTailTactics
namespace Go.Proofs.YtkjdfjpfghpofaaDoor
open Go.RowKit

section
variable {P : Program} {ops : Array Oper} {w : World} {Q : Act → Prop} {rest : List Oper} {o : Oper} {a : Act}
theorem still_load_mid (hgd : o.guard = none) (ty : TypeId) (x : Operand) (ho : o.op = .load ty x) (b off : Nat) (hx : a.eval x = .pointer (some ⟨b, off, none⟩)) (cs : List Value) (d : TypeDesc) (hc : w.rangeAt b off cs)
    (hu : P.underlying ty = some d) (hd : d.isRow = true) (hi : (P.info? ty).map (·.size) = some cs.length) (h : wpStill P ops w Q rest (a.put o.dst (.agg cs.toArray))) : wpStill P ops w Q (o :: rest) a := by
  have hw : Region.wanted o (yielded ops a.tmps) = true := by unfold Region.wanted; rw [hgd]
  unfold wpStill
  rw [if_pos hw]
  unfold Oper.still execOp
  simp only [ho, hx, Instr.loadAt, Instr.sureAddr, Sem.run_bind, Sem.run_pure, Result.andThen_ok, run_loadVar_mid w b off ty cs d hc hu hd hi]
  exact ⟨rfl, h⟩
end

theorem Blk.range {k : IntKind} {w : World} {b : Nat} {T : TypeId} {l : List Int} (h : Blk k w b T l) : w.rangeAt b 0 (List.map (Value.int k) l) := fun j v hv => by
  rw [Nat.zero_add, cell_of_row _ _ _ _ _ _ h]
  simpa using hv
/-- A head's cells. -/
def headC (size : Int) (root : List Int) : List Value := .int .i64 size :: root.map (Value.int .u8)
abbrev headV (size : Int) (root : List Int) : Value := .agg (headC size root).toArray
theorem head_new (w : World) (T : TypeId) (size : Int) (root : List Int) (cs : Array Value) (hc : (headC size root).toArray = cs) : (w.alloc (.cells cs T)).rangeAt w.heap.size 1 (root.map (Value.int .u8)) := by
  subst hc
  intro j v hv
  simp [go_sem, headC, Nat.add_comm 1 j]
  simpa using hv
/-- While a path is checked: the hash so far, in a block that is newer than w2. -/
def ChW (w2 : World) (b10 : Nat) (X : List Int) (wr : World) : Prop := Blk .u8 wr b10 24 X ∧ Below w2.heap.size w2 wr
theorem ChW.below {w2 wr w' : World} {b10 : Nat} {X : List Int} (h : ChW w2 b10 X wr) (hb : Below wr.heap.size wr w') : ChW w2 b10 X w' := ⟨h.1.below hb h.1.lt, h.2.trans (hb.mono h.2.size)⟩
/-- And a part in its box. -/
def PartW (w : World) (b : Nat) (p : Tree.Part) : Prop := w.heap[b]? = some (.cells #[.int .i64 p.a, .int .i64 p.b, .bool p.first] 66 (0, 0))
theorem PartW.cells {w : World} {b : Nat} {p : Tree.Part} (h : PartW w b p) : w.cell? ⟨b, 0, none⟩ = some (.int .i64 p.a) ∧ w.cell? ⟨b, 1, none⟩ = some (.int .i64 p.b) ∧ w.cell? ⟨b, 2, none⟩ = some (.bool p.first) := by
  refine ⟨?_, ?_, ?_⟩ <;> rw [cell_of_row _ _ _ _ _ _ h] <;> rfl
theorem PartW.lt {w : World} {b : Nat} {p : Tree.Part} (h : PartW w b p) : b < w.heap.size := by
  by_cases hlt : b < w.heap.size
  · exact hlt
  · have hn : w.heap[b]? = none := by simp; omega
    rw [PartW, hn] at h; cases h
def ChP (w2 : World) (b10 b12 : Nat) (p : Tree.Part) (X : List Int) (wr : World) : Prop := PartW wr b12 p ∧ Blk .u8 wr b10 24 X ∧ Below w2.heap.size w2 wr
theorem ChP.below {w2 wr w' : World} {b10 b12 : Nat} {p : Tree.Part} {X : List Int} (h : ChP w2 b10 b12 p X wr) (hb : Below wr.heap.size wr w') : ChP w2 b10 b12 p X w' := ⟨(hb.block b12 h.1.lt).trans h.1, h.2.1.below hb h.2.1.lt, h.2.2.trans (hb.mono h.2.2.size)⟩
theorem ChP.drew {w2 wr : World} {b10 b12 : Nat} {p : Tree.Part} {X : List Int} (h : ChP w2 b10 b12 p X wr) : ChP w2 b10 b12 p X wr.drew := ⟨h.1, h.2.1, h.2.2.drew⟩
theorem ChP.store {w2 wr : World} {b10 b12 : Nat} {p : Tree.Part} {X : List Int} (h : ChP w2 b10 b12 p X wr) (X2 : List Int) (hb : w2.heap.size ≤ b10 ∧ b10 < b12) (hn : b12 ≠ b10) : ChP w2 b10 b12 p X2 (wr.setRow b10 (X2.map (Value.int .u8)).toArray) :=
  ⟨(setRow_other wr b10 b12 _ hn).trans h.1, h.2.1.row X2, Below.setRow h.2.2 hb.1 _⟩
theorem chP_start {w2 wr : World} {b10 : Nat} {X : List Int} (h : ChW w2 b10 X wr) (p : Tree.Part) : ChP w2 b10 wr.heap.size p X (wr.alloc (.cells #[.int .i64 p.a, .int .i64 p.b, .bool p.first] 66)) :=
  ⟨heap_alloc_new wr _, h.1.alloc _, h.2.alloc h.2.size _⟩

theorem joined_length (p : Tree.Part) (h x : List Int) : (Tree.joined p h x).length = 32 := by unfold Tree.joined; split <;> exact (node_hash _ _).1
theorem climb_length : ∀ (ps : List Tree.Part) (hs : List (List Int)) (x : List Int), x.length = 32 → (Tree.climb ps hs x).length = 32
  | p :: ps, h :: hs, x, _ => climb_length ps hs _ (joined_length p h x)
  | [], _, _, hx => by simpa [Tree.climb] using hx
  | _ :: _, [], _, hx => by simpa [Tree.climb] using hx
/-- What CheckPath reports. -/
def checkL (size n : Int) (s : ByteArray) (hs : List (List Int)) (root : List Int) : Bool :=
  decide (0 ≤ n ∧ n < size) && (decide (hs.length = (Tree.down Tree.isOne n.toNat ⟨0, size.toNat, false⟩).2.length) && (Tree.climb (Tree.down Tree.isOne n.toNat ⟨0, size.toNat, false⟩).2 hs (Tree.leaf s) == root))

set_option maxRecDepth 100000 in
set_option maxHeartbeats 1000000 in
theorem check_out (size n : Int) (s : ByteArray) (v : Value) (hs : List (List Int)) (root : List Int) (hr : root.length = 32) (h : n < 0 ∨ size ≤ n) (w : World) :
    Calls Tryd.prog 24 #[headV size root, .int .i64 n, .string s, v] w fun e w' => e = .returned (.bool false) ∧ Below w.heap.size w w' := by
  obtain ⟨cs, hc⟩ : ∃ cs, (headC size root).toArray = cs := ⟨_, rfl⟩
  have zc : cs.size = 33 := by rw [← hc]; simp [headC, hr]
  have h0 : ∀ h : 0 < cs.size, cs[0]'h = .int .i64 size := by subst hc; intro _; rfl
  unfold headV
  rw [hc]
  clear hc
  by_cases hn : n < 0
  · clear h
    go_enter Tryd.func24, Tryd.ntmps24
    go_wp2
    go_ret
    exact ⟨rfl, (Below.refl _ w).alloc (Nat.le_refl _) _⟩
  · have hsn : ¬ n < size := by omega
    have hsn2 : size ≤ n := by omega
    clear h
    go_enter Tryd.func24, Tryd.ntmps24
    go_wp2
    go_ret
    exact ⟨rfl, (Below.refl _ w).alloc (Nat.le_refl _) _⟩

set_option maxRecDepth 100000 in
set_option maxHeartbeats 4000000 in
theorem check_in (size n : Nat) (s : ByteArray) (v : Value) (hs : List (List Int)) (root : List Int) (hr : root.length = 32) (hn : n < size) (hmax : (size : Int) ≤ 9223372036854775807) (hsz : s.size ≤ 140737488351232) (w : World) (ht : Tabs w) (hv : HashesV w v hs) (hlen : hs.length ≤ 100000) :
    Calls Tryd.prog 24 #[headV size root, .int .i64 n, .string s, v] w fun e w' => e = .returned (.bool (decide (hs.length = (Tree.down Tree.isOne n ⟨0, size, false⟩).2.length) && (Tree.climb (Tree.down Tree.isOne n ⟨0, size, false⟩).2 hs (Tree.leaf s) == root))) ∧ Below w.heap.size w w' := by
  have HT := Lib.hid ht
  have HV := Lib.hid hv
  obtain ⟨va, vc, rfl⟩ := hv.shape
  have hshort := Tree.down_short Tree.isOne n ⟨0, size, false⟩ (by simp only; omega)
  have CW := Lib.hid (fun w' => wayToString_c size n hn hmax w')
  obtain ⟨⟨E, R⟩, hER⟩ : ∃ y, Tree.down Tree.isOne n ⟨0, size, false⟩ = y := ⟨_, rfl⟩
  rw [hER] at CW hshort
  rw [hER]
  simp only at hshort ⊢
  have CL := Lib.hid (fun w' t => leaf_c s hsz w' t)
  have hlf := (leaf_hash s).1
  obtain ⟨lf, elf⟩ : ∃ x, Tree.leaf s = x := ⟨_, rfl⟩
  rw [elf] at CL hlf
  rw [elf]
  obtain ⟨cs, hc⟩ : ∃ cs, (headC (size : Int) root).toArray = cs := ⟨_, rfl⟩
  have zc : cs.size = 33 := by rw [← hc]; simp [headC, hr]
  have h0 : ∀ h : 0 < cs.size, cs[0]'h = .int .i64 (size : Int) := by subst hc; intro _; rfl
  have HHD := Lib.hid (head_new w 38 (size : Int) root cs hc)
  unfold headV
  rw [hc]
  have i1 : ¬ (n : Int) < 0 := by omega
  have i2 : (n : Int) < (size : Int) := by omega
  have i3 : ¬ (size : Int) ≤ (n : Int) := by omega
  obtain ⟨res, eres⟩ : ∃ b, (decide (hs.length = R.length) && (Tree.climb R hs lf == root)) = b := ⟨_, rfl⟩
  rw [eres]
  have HR := Lib.hid (And.intro eres (And.intro hr (And.intro hshort (And.intro hlen (And.intro hlf hc)))))
  unfold hashV at CL
  clear ht hv hER hc elf eres hr hshort hlen hlf hn hmax hsz
  go_enter Tryd.func24, Tryd.ntmps24
  go_wp2_with fail
  generalize hW : (w.alloc _) = W1
  have hb1 : Below w.heap.size w W1 ∧ W1.rangeAt w.heap.size 1 (root.map (Value.int .u8)) ∧ w.heap.size < W1.heap.size := by rw [← hW]; exact ⟨(Below.refl _ w).alloc (Nat.le_refl _) _, HHD.out, by simp⟩
  clear hW HHD
  refine (CW.out _).mono ?_
  rintro e w2 ⟨wv, rfl, ⟨pa, pc, rfl, hO⟩, hb⟩
  have hf : ∀ w', (Instr.field 69 (wayV E (.slice pa R.length pc)) 1).run Tryd.prog w' = .ok (.slice pa R.length pc) w' := fun w' => by kernel_rfl
  have HO := Lib.hid (wayR_parts (E := E) hO)
  have HB2 : Hid (Below w.heap.size w w2 ∧ w2.rangeAt w.heap.size 1 (root.map (Value.int .u8)) ∧ w.heap.size < w2.heap.size) := Lib.hid ⟨hb1.1.trans (hb.mono hb1.1.size), rangeAt_below hb1.2.1 hb hb1.2.2, Nat.lt_of_lt_of_le hb1.2.2 hb.size⟩
  clear hO hb hb1 CW
  by_cases hlen : hs.length = R.length
  · have j1 : ((hs.length : Int) != (R.length : Int)) = false := by simp; omega
    have HLEN := Lib.hid hlen
    clear hlen
    go_wp2_with fail
    refine (CL.out _ (HT.out.below HB2.out.1)).mono ?_
    rintro e w3 ⟨rfl, hb3⟩
    have HB3 := Lib.hid hb3
    clear hb3
    go_wp2_with (refine store_blk (b := w3.heap.size) (zeros_new w3 _ _ .u8 32 _ rfl (by rfl)) rfl _ _ rfl rfl lf rfl HR.out.2.2.2.2.1 (by kernel_rfl) ?_)
    generalize hW : ((w3.alloc _).setRow _ _) = W4
    have hQ : Hid (ChW w2 w3.heap.size lf W4) := by
      rw [← hW]
      exact Lib.hid ⟨(zeros_new w3 _ _ .u8 32 _ rfl (by rfl)).row lf, Below.setRow (HB3.out.alloc HB3.out.size _) HB3.out.size _⟩
    obtain ⟨b10, e10⟩ : ∃ b, w3.heap.size = b := ⟨_, rfl⟩
    have HB10 : Hid (w2.heap.size ≤ b10) := Lib.hid (by have := HB3.out.size; omega)
    rw [e10] at hQ
    rw [e10]
    clear hW e10 HB3
    have i7 : (R.length : Int) ≤ 63 := by have := HR.out; omega
    go_loopw [11, 12, 35] (fun _ _ i wr => ∃ j : Nat, j ≤ R.length ∧ i = .int .i64 j ∧ Hid (ChW w2 b10 (Tree.climb (R.take j) (hs.take j) lf) wr)) (fun _ _ i _ => R.length - (intOf i).toNat)
    case atStart => exact ⟨0, by omega, rfl, hQ⟩
    clear hQ
    case round =>
      obtain ⟨j, hj0, rfl, hQ⟩ := hrel
      by_cases hlt : j < R.length
      · obtain ⟨g, rfl, hg, hgl⟩ := HO.out (by omega)
        obtain ⟨p0, p1, p2⟩ := (hg.below hQ.out.2 hgl).2 j hlt
        have hjl : j < hs.length := by have := HLEN.out; omega
        obtain ⟨b0, off, cap, e1, hc1, hm1, hb1, hr1⟩ : ∃ b off cap, Value.slice va hs.length vc = .slice (some ⟨b, off, none⟩) hs.length cap ∧ (hs.length : Int) ≤ (cap : Int) ∧ (cap : Int) ≤ 9223372036854775807 ∧ b < w.heap.size ∧ ∀ i (hi : i < hs.length), w.rangeAt b (off + i * 32) (hashC hs[i]) := by
          rcases HV.out.2 with ⟨he, _⟩ | ⟨_, h⟩
          · rw [he] at hjl; simp at hjl
          · exact h
        injection e1 with e1 _ e1c
        subst e1 e1c
        have hg2 := rangeAt_below (hr1 j hjl) HB2.out.1 hb1
        have hjl32 := HV.out.1 _ (List.getElem_mem hjl)
        have hstep : Tree.climb (R.take (j + 1)) (hs.take (j + 1)) lf = Tree.joined R[j] hs[j] (Tree.climb (R.take j) (hs.take j) lf) := by
          rw [List.take_succ_eq_append_getElem hlt, List.take_succ_eq_append_getElem hjl, Tree.climb_append _ _ _ _ _ (by simp; omega)]
        have hX32 := climb_length (R.take j) (hs.take j) lf HR.out.2.2.2.2.1
        have hX2 := climb_length (R.take (j + 1)) (hs.take (j + 1)) lf HR.out.2.2.2.2.1
        rw [hstep] at hX2
        obtain ⟨X, eX⟩ : ∃ X, Tree.climb (R.take j) (hs.take j) lf = X := ⟨_, rfl⟩
        rw [eX] at hQ hstep hX32 hX2
        obtain ⟨hj, ehj⟩ : ∃ x, hs[j] = x := ⟨_, rfl⟩
        rw [ehj] at hg2 hjl32 hstep hX2
        have JC0 := fun w' (h : Below w2.heap.size w2 w') => joined_c R[j] hj X hjl32 hX32 w' ((HT.out.below HB2.out.1).below h)
        obtain ⟨X2, eX2⟩ : ∃ x, Tree.joined R[j] hj X = x := ⟨_, rfl⟩
        rw [eX2] at JC0 hstep hX2
        unfold hashV at JC0
        have JC := Lib.hid JC0
        obtain ⟨pp, epp⟩ : ∃ p, R[j] = p := ⟨_, rfl⟩
        rw [epp] at p0 p1 p2 JC
        obtain ⟨qa, qb, qf⟩ := pp
        simp only at p0 p1 p2 JC
        have HG := Lib.hid (And.intro hg2 (Nat.lt_of_lt_of_le hb1 HB2.out.1.size))
        have HX := Lib.hid (And.intro hstep (And.intro hX32 hX2))
        have HLT := Lib.hid hlt
        have i4 : (j : Int) < (R.length : Int) := by omega
        have i5 : (j : Int) < (hs.length : Int) := by omega
        have n1 : ¬ g = wr.heap.size := by have := (hg.below hQ.out.2 hgl).1; omega
        have n2 : ¬ wr.heap.size = g := by omega
        have hu := Tryd.underlying24
        have hij : (Tryd.prog.info? 24).map (·.size) = some (List.map (Value.int .u8) hj).length := by rw [List.length_map, hjl32]; kernel_rfl
        have hiX : (Tryd.prog.info? 24).map (·.size) = some (List.map (Value.int .u8) X).length := by rw [List.length_map, hX32]; kernel_rfl
        clear JC0 hg hgl hr1 hg2 hstep hX2 eX ehj eX2 epp hlt hj0 hb1 hm1
        go_wp2_with fail
        generalize hW : (wr.alloc _) = W
        have hQ2 : Hid (ChP w2 b10 wr.heap.size ⟨qa, qb, qf⟩ X W) := by rw [← hW]; exact Lib.hid (chP_start hQ.out ⟨qa, qb, qf⟩)
        have HB : Hid (w2.heap.size ≤ b10 ∧ b10 < wr.heap.size) := Lib.hid ⟨HB10.out, hQ.out.1.lt⟩
        obtain ⟨b12, e12⟩ : ∃ b, wr.heap.size = b := ⟨_, rfl⟩
        rw [e12] at hQ2 HB
        rw [e12]
        clear hW e12 n1 n2 p0 p1 p2 hQ
        have hQ := hQ2
        clear hQ2
        obtain ⟨p0, p1, p2⟩ := hQ.out.1.cells
        go_still_tail 6, (by kernel_rfl)
        refine still_load_mid rfl 24 _ rfl b0 (off + j * 32) (by kernel_rfl) (List.map (Value.int .u8) hj) _ (rangeAt_below HG.out.1 hQ.out.2.2.drew HG.out.2) hu rfl hij ?_
        refine still_load_mid rfl 24 _ rfl b10 0 (by kernel_rfl) (List.map (Value.int .u8) X) _ hQ.out.drew.2.1.range hu rfl hiX ?_
        refine wpStill_nil ?_
        change wpList _ _ _ _ _ W.drew
        have hQ2 := Lib.hid hQ.out.drew
        clear hQ p0 p1 p2
        generalize W.drew = WD at hQ2 ⊢
        go_wp2_with fail
        refine (JC.out _ hQ2.out.2.2).mono ?_
        rintro e wa ⟨rfl, hb⟩
        have hQ := Lib.hid (hQ2.out.below hb)
        clear hb hQ2
        go_wp2_with (refine store_blk (b := b10) hQ.out.2.1 rfl _ _ rfl rfl X2 rfl (by rw [HX.out.2.1, HX.out.2.2]) (by rw [HX.out.2.1]; kernel_rfl) ?_)
        refine ⟨⟨j + 1, by have := HLT.out; omega, by simp, ?_⟩, by have := HLT.out; simp [intOf]; omega⟩
        rw [HX.out.1]
        have hQ2 := ChP.store hQ.out X2 HB.out (by have := HB.out; omega)
        exact Lib.hid ⟨hQ2.2.1, hQ2.2.2⟩
      · obtain rfl : j = R.length := by omega
        have htk : hs.take R.length = hs := by rw [← HLEN.out, List.take_length]
        rw [List.take_length, htk] at hQ
        have hX32 := climb_length R hs lf HR.out.2.2.2.2.1
        obtain ⟨X, eX⟩ : ∃ X, Tree.climb R hs lf = X := ⟨_, rfl⟩
        rw [eX] at hQ hX32
        have hres : (X == root) = res := by rw [← HR.out.1, eX]; simp [HLEN.out]
        have hq := fun w' => hash_eq X root hX32 HR.out.2.1 w'
        simp only [hres] at hq
        have hg2 := rangeAt_below HB2.out.2.1 hQ.out.2 HB2.out.2.2
        have hu := Tryd.underlying24
        have hir : (Tryd.prog.info? 24).map (·.size) = some (List.map (Value.int .u8) root).length := by rw [List.length_map, HR.out.2.1]; kernel_rfl
        clear htk eX hres hj0
        go_wp2_with (first
          | refine load_blk hQ.out.1 rfl _ rfl rfl 32 _ hu (by rw [hX32]; kernel_rfl) ?_
          | refine wpList_load_mid rfl 24 _ rfl w.heap.size 1 rfl (List.map (Value.int .u8) root) _ hg2 hu rfl hir ?_)
        go_ret
        exact ⟨rfl, HB2.out.1.trans (hQ.out.2.mono HB2.out.1.size)⟩
  · have j1 : ((hs.length : Int) != (R.length : Int)) = true := by simp; omega
    have hrf : res = false := by rw [← HR.out.1]; simp [hlen]
    subst hrf
    clear hlen
    go_wp2_with fail
    go_ret
    exact ⟨rfl, HB2.out.1⟩

/-- CheckPath, of any head, any number and any list of hashes. -/
theorem checkPath_c (size n : Int) (s : ByteArray) (v : Value) (hs : List (List Int)) (root : List Int) (hr : root.length = 32) (hmax : size ≤ 9223372036854775807) (hsz : s.size ≤ 140737488351232) (hlen : hs.length ≤ 100000) (w : World) (ht : Tabs w) (hv : HashesV w v hs) :
    Calls Tryd.prog 24 #[headV size root, .int .i64 n, .string s, v] w fun e w' => e = .returned (.bool (checkL size n s hs root)) ∧ Below w.heap.size w w' := by
  by_cases h : 0 ≤ n ∧ n < size
  · obtain ⟨a, rfl⟩ := Int.eq_ofNat_of_zero_le h.1
    obtain ⟨b, rfl⟩ := Int.eq_ofNat_of_zero_le (a := size) (by omega)
    refine (check_in b a s v hs root hr (by omega) hmax hsz w ht hv hlen).mono ?_
    rintro e w' ⟨rfl, hb⟩
    refine ⟨?_, hb⟩
    have hd : decide (0 ≤ (a : Int) ∧ (a : Int) < (b : Int)) = true := by simpa using h.2
    simp only [checkL, hd, Bool.true_and, Int.toNat_natCast]
  · refine (check_out size n s v hs root hr (by omega) w).mono ?_
    rintro e w' ⟨rfl, hb⟩
    refine ⟨?_, hb⟩
    have hd : decide (0 ≤ n ∧ n < size) = false := by simp only [decide_eq_false_iff_not]; exact h
    simp only [checkL, hd, Bool.false_and]
end Go.Proofs.YtkjdfjpfghpofaaDoor
