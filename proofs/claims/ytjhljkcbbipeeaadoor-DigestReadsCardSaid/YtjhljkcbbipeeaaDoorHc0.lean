/- The laws: DigestReads. -/
import Derived.Test.YtjhljkcbbipeeaaDoorGw
import Derived.Test.YtjhljkcbbipeeaaDoorGz
import Derived.Test.YtjhljkcbbipeeaaDoorGm
import Derived.Test.YtjhljkcbbipeeaaDoorHb0
import Derived.BigRegion
namespace Go.Proofs.YtjhljkcbbipeeaaDoor
open Go.RowKit

/-- The hash's box, the two numbers' box. -/
def RdW (w : World) (h : List Int) (q0 q1 : Int) (wr : World) : Prop := Blk .u8 wr w.heap.size 24 h ∧ Blk .i64 wr (w.heap.size + 1) 33 [q0, q1] ∧ Below w.heap.size w wr
theorem RdW.below {w wr w' : World} {h : List Int} {q0 q1 : Int} (k : RdW w h q0 q1 wr) (hb : Below wr.heap.size wr w') : RdW w h q0 q1 w' := ⟨k.1.below hb k.1.lt, k.2.1.below hb k.2.1.lt, k.2.2.trans (hb.mono k.2.2.size)⟩
theorem RdW.drew {w wr : World} {h : List Int} {q0 q1 : Int} (k : RdW w h q0 q1 wr) : RdW w h q0 q1 wr.drew := ⟨k.1, k.2.1, k.2.2.drew⟩
theorem rdW_start (w : World) (h : List Int) (q0 q1 : Int) (cs : Array Value) (hc : (h.map (Value.int .u8)).toArray = cs) : RdW w h q0 q1 ((w.alloc (.cells cs 24)).alloc (.cells #[.int .i64 q0, .int .i64 q1] 33)) := by
  refine ⟨(Blk.new w h cs hc.symm).alloc _, ?_, ((Below.refl _ w).alloc (Nat.le_refl _) _).alloc (by simp) _⟩
  have e := Blk.new (k := .i64) (T := 33) (w.alloc (.cells cs 24)) [q0, q1] #[.int .i64 q0, .int .i64 q1] rfl
  simpa using e
/-- And the hash that was read. -/
def Rd2 (w : World) (h : List Int) (q0 q1 : Int) (b10 : Nat) (wr : World) : Prop := RdW w h q0 q1 wr ∧ Blk .u8 wr b10 24 h
theorem Rd2.below {w wr w' : World} {h : List Int} {q0 q1 : Int} {b10 : Nat} (k : Rd2 w h q0 q1 b10 wr) (hb : Below wr.heap.size wr w') : Rd2 w h q0 q1 b10 w' := ⟨k.1.below hb, k.2.below hb k.2.lt⟩
theorem rd2_start {w wr : World} {h : List Int} {q0 q1 : Int} (k : RdW w h q0 q1 wr) (zs : Array Value) (hz : zs = ((List.replicate 32 0).map (Value.int .u8)).toArray) : Rd2 w h q0 q1 wr.heap.size ((wr.alloc (.cells zs 24)).setRow wr.heap.size (h.map (Value.int .u8)).toArray) := by
  have hb : Below wr.heap.size wr ((wr.alloc (.cells zs 24)).setRow wr.heap.size (h.map (Value.int .u8)).toArray) := Below.setRow ((Below.refl _ wr).alloc (Nat.le_refl _) _) (Nat.le_refl _) _
  exact ⟨k.below hb, (zeros_new wr _ _ .u8 32 _ rfl hz).row h⟩

/-- And the five texts. -/
def Rd3 (w : World) (h : List Int) (q0 q1 : Int) (b10 b12 : Nat) (ts : List ByteArray) (wr : World) : Prop := Rd2 w h q0 q1 b10 wr ∧ b12 < wr.heap.size ∧ ∀ i, i < 5 → wr.cell? ⟨b12, i, none⟩ = some (.string (ts.getD i ByteArray.empty))
theorem Rd3.below {w wr w' : World} {h : List Int} {q0 q1 : Int} {b10 b12 : Nat} {ts : List ByteArray} (k : Rd3 w h q0 q1 b10 b12 ts wr) (hb : Below wr.heap.size wr w') : Rd3 w h q0 q1 b10 b12 ts w' :=
  ⟨k.1.below hb, Nat.lt_of_lt_of_le k.2.1 hb.size, fun i hi => (hb.cell (p := ⟨b12, i, none⟩) k.2.1).trans (k.2.2 i hi)⟩
theorem rd3_a {w W5 : World} {h : List Int} {q0 q1 : Int} {b10 : Nat} (k : Rd2 w h q0 q1 b10 W5) (s0 s1 s2 s3 s4 : ByteArray) (o : Obj) (T : TypeId) :
    Rd3 w h q0 q1 b10 (W5.heap.size + 1) [s0, s1, s2, s3, s4] ((W5.alloc o).alloc (.cells #[.string s0, .string s1, .string s2, .string s3, .string s4] T)).drew := by
  refine ⟨k.below ((((Below.refl _ W5).alloc (Nat.le_refl _) _).alloc (by simp) _).drew), by simp, fun i hi => ?_⟩
  match i, hi with
  | 0, _ => simp [go_sem]
  | 1, _ => simp [go_sem]
  | 2, _ => simp [go_sem]
  | 3, _ => simp [go_sem]
  | 4, _ => simp [go_sem]
theorem rd3_b {w W5 : World} {h : List Int} {q0 q1 : Int} {b10 : Nat} (k : Rd2 w h q0 q1 b10 W5) (s0 s1 s2 s3 s4 : ByteArray) (o : Obj) (T : TypeId) :
    Rd3 w h q0 q1 b10 W5.heap.size [s0, s1, s2, s3, s4] ((W5.alloc (.cells #[.string s0, .string s1, .string s2, .string s3, .string s4] T)).alloc o).drew := by
  have hb : Below W5.heap.size W5 ((W5.alloc (.cells #[.string s0, .string s1, .string s2, .string s3, .string s4] T)).alloc o).drew := (((Below.refl _ W5).alloc (Nat.le_refl _) _).alloc (by simp) _).drew
  refine ⟨k.below hb, by simp; omega, fun i hi => ?_⟩
  refine (World.cell?_of_block (w := W5.alloc (.cells #[.string s0, .string s1, .string s2, .string s3, .string s4] T)) (a := ⟨W5.heap.size, i, none⟩) (Below.heap_alloc _ o _ (by simp))).trans ?_
  match i, hi with
  | 0, _ => simp [go_sem]
  | 1, _ => simp [go_sem]
  | 2, _ => simp [go_sem]
  | 3, _ => simp [go_sem]
  | 4, _ => simp [go_sem]
theorem load_blk_g {k : IntKind} {w : World} {b : Nat} {T : TypeId} {l : List Int} {P : Program} {ops : Array Oper} {rest : List Oper} {o : Oper} {a : Act} {Q : Exit → Act → World → Prop} (h : Blk k w b T l) (hw : Region.wanted o (yielded ops a.tmps) = true) (x : Operand) (ho : o.op = .load T x)
    (hx : a.eval x = .pointer (some ⟨b, 0, none⟩)) (n : Nat) (e : TypeId) (hu : P.underlying T = some (.array n e)) (hi : (P.info? T).map (·.size) = some l.length)
    (hK : wpList P ops Q rest (a.put o.dst (.agg (l.map (Value.int k)).toArray)) w) : wpList P ops Q (o :: rest) a w :=
  wpList_step fun K hKK => by rw [if_pos hw]; exact wp_load_row T x ho b hx T _ (0, 0) _ h hu rfl (by simpa using hi) (hKK _ _ hK)
theorem readL_length (s : ByteArray) : (Sha.readL s).length = 32 := by unfold Sha.readL; split; exact Sha.valN_length s 32; rfl
/-- And a hash that was read. -/
theorem rd3_store {w wr : World} {h : List Int} {q0 q1 : Int} {b10 b12 : Nat} {ts : List ByteArray} (k : Rd3 w h q0 q1 b10 b12 ts wr) (zs : Array Value) (hz : zs = ((List.replicate 32 0).map (Value.int .u8)).toArray) (L : List Int) :
    Rd3 w h q0 q1 b10 b12 ts ((wr.alloc (.cells zs 24)).setRow wr.heap.size (L.map (Value.int .u8)).toArray) ∧ Blk .u8 ((wr.alloc (.cells zs 24)).setRow wr.heap.size (L.map (Value.int .u8)).toArray) wr.heap.size 24 L ∧ Below wr.heap.size wr ((wr.alloc (.cells zs 24)).setRow wr.heap.size (L.map (Value.int .u8)).toArray) := by
  have hb : Below wr.heap.size wr ((wr.alloc (.cells zs 24)).setRow wr.heap.size (L.map (Value.int .u8)).toArray) := Below.setRow ((Below.refl _ wr).alloc (Nat.le_refl _) _) (Nat.le_refl _) _
  exact ⟨k.below hb, (zeros_new wr _ _ .u8 32 _ rfl hz).row L, hb⟩

set_option maxRecDepth 100000 in
set_option maxHeartbeats 2000000 in
theorem digestReads_c (h : List Int) (q0 q1 : Int) (s : ByteArray) (hh : Sha.Hash h) (_ : -9223372036854775808 ≤ q0 ∧ q0 ≤ 9223372036854775807) (_ : -9223372036854775808 ≤ q1 ∧ q1 ≤ 9223372036854775807) (w : World) (ht : Tabs w) :
    Calls Tryd.prog 7 #[hashV h, .agg #[.int .i64 q0, .int .i64 q1], .string s] w fun e w' => e = .returned (.bool true) ∧ Below w.heap.size w w' := by
  have HT := Lib.hid ht
  have TX := Lib.hid (fun w' => text_c h hh w')
  have RX := Lib.hid (fun w' => read_c (Sha.text h) w')
  have hz := Sha.text_size h
  rw [Sha.read_ok h hh, Sha.read_text h hh] at RX
  obtain ⟨X, eX⟩ : ∃ X, Sha.text h = X := ⟨_, rfl⟩
  rw [eX] at TX RX hz
  obtain ⟨cs, hc⟩ : ∃ cs, (h.map (Value.int .u8)).toArray = cs := ⟨_, rfl⟩
  have zc : cs.size = 32 := by rw [← hc]; simp [hh.1]
  have HW := Lib.hid (rdW_start w h q0 q1 cs hc)
  have m0 := Int.emod_nonneg q0 (b := 64) (by decide)
  have m1 := Int.emod_lt_of_pos q0 (b := 64) (by decide)
  have CM := Lib.hid (fun w' => mod_any q0 64 (by decide) (by decide) w')
  obtain ⟨k, hk⟩ : ∃ k : Nat, q0 % 64 = (k : Int) := ⟨(q0 % 64).toNat, by omega⟩
  rw [hk] at CM m0 m1
  have e64 : ((X.size : Int) != 64) = false := by simp; omega
  have zX : (X.size : Int) = 64 := by omega
  obtain ⟨A, eA⟩ : ∃ A, X.extract 0 k = A := ⟨_, rfl⟩
  obtain ⟨B, eB⟩ : ∃ B, X.extract (k + 1) X.size = B := ⟨_, rfl⟩
  have sA : A.size ≤ 64 := by rw [← eA]; simp; omega
  have sB : B.size ≤ 64 := by rw [← eB]; simp; omega
  have HA := Lib.hid (And.intro hh (And.intro sA (And.intro sB (And.intro hz hc))))
  obtain ⟨v, hv⟩ : ∃ v, q1 % 256 = v := ⟨_, rfl⟩
  have hw : IntKind.u8.wrap q1 = v := by rw [← hv]; rfl
  have eB2 : X.extract (k + 1) 64 = B := by rw [← eB, hz]
  have kb : ∀ (b : Nat) (W : World), W.cell? ⟨b, 0, none⟩ = some (.int .u8 v) → (convert 36 9 (.slice (some ⟨b, 0, none⟩) 1 1)).run Tryd.prog W = .ok (.string (strOfNums [v])) W := fun b W hc =>
    run_convert_bytes_arg W 36 5 (by kernel_rfl) (by kernel_rfl) b 0 1 1 [v] rfl (fun i hi => by
      have : i = 0 := by omega
      subst this; simpa using hc) 9 (by kernel_rfl)
  obtain ⟨C, eC⟩ : ∃ C, A ++ strOfNums [v] = C := ⟨_, rfl⟩
  have sv : (strOfNums [v]).size = 1 := by rw [strOfNums_size]; rfl
  have sC : C.size ≤ 65 := by rw [← eC, ByteArray.size_append]; omega
  have k0 : ∀ w, (Op.stringOp .add A (strOfNums [v])).run Tryd.prog w = .ok (.string C) w := fun w => by rw [run_string_add_sum w _ _ (by omega), eC]
  have k3 : ∀ w, (Op.stringOp .add C B).run Tryd.prog w = .ok (.string (C ++ B)) w := fun w => run_string_add_sum w _ _ (by omega)
  have k1 : ∀ w, (Op.stringOp .add X ⟨#[48]⟩).run Tryd.prog w = .ok (.string (X ++ ⟨#[48]⟩)) w := fun w => run_string_add_sum w _ _ (by have : (⟨#[48]⟩ : ByteArray).size = 1 := rfl; omega)
  have k2 : ∀ w, (Op.stringOp .add A ⟨#[65]⟩).run Tryd.prog w = .ok (.string (A ++ ⟨#[65]⟩)) w := fun w => run_string_add_sum w _ _ (by have : (⟨#[65]⟩ : ByteArray).size = 1 := rfl; omega)
  obtain ⟨D, eD⟩ : ∃ D, A ++ (⟨#[65]⟩ : ByteArray) = D := ⟨_, rfl⟩
  have sD : D.size ≤ 65 := by rw [← eD, ByteArray.size_append]; have : (⟨#[65]⟩ : ByteArray).size = 1 := rfl; omega
  rw [eD] at k2
  have k4 : ∀ w, (Op.stringOp .add D B).run Tryd.prog w = .ok (.string (D ++ B)) w := fun w => run_string_add_sum w _ _ (by omega)
  obtain ⟨T1, e1⟩ : ∃ T, C ++ B = T := ⟨_, rfl⟩
  obtain ⟨T3, e3⟩ : ∃ T, X ++ (⟨#[48]⟩ : ByteArray) = T := ⟨_, rfl⟩
  obtain ⟨T4, e4⟩ : ∃ T, D ++ B = T := ⟨_, rfl⟩
  rw [e1] at k3; rw [e3] at k1; rw [e4] at k4
  unfold hashV
  rw [hc]
  unfold hashV at TX RX
  clear ht hh hz eX hc hk sA sB sv sC sD eC eD e1 e3 e4
  go_enter Tryd.func7, Tryd.ntmps7
  go_wp2_with fail
  refine (sanity_c _ (HT.out.below HW.out.2.2)).mono ?_; rintro e w1 ⟨rfl, hb⟩
  have hQ := Lib.hid (HW.out.below hb); clear hb HW
  go_wp2_with (refine load_blk hQ.out.1 rfl _ rfl rfl 32 5 (by kernel_rfl) (by rw [HA.out.1.1]; kernel_rfl) ?_)
  refine (TX.out _).mono ?_; rintro e w2 ⟨rfl, hb⟩
  have hQ := Lib.hid (hQ.out.below hb); clear hb
  have c0 := hQ.out.2.1.cell 0 (by simp)
  go_wp2_with fail
  refine (CM.out _).mono ?_; rintro e w3 ⟨rfl, rfl⟩
  go_wp2_with fail
  refine (RX.out _).mono ?_; rintro e w4 ⟨rfl, hb⟩
  have hQ := Lib.hid (hQ.out.below hb); clear hb c0
  go_wp2_with (refine store_blk (zeros_new w4 _ _ .u8 32 _ rfl (by rfl)) rfl _ _ rfl rfl h rfl HA.out.1.1 (by kernel_rfl) ?_)
  generalize hW : ((w4.alloc _).setRow _ _) = W5
  have hQ : Hid (Rd2 w h q0 q1 w4.heap.size W5) := by rw [← hW]; exact Lib.hid (rd2_start hQ.out _ (by rfl))
  clear hW
  have c1 := hQ.out.1.2.1.cell 1 (by simp)
  have c1' : W5.cell? ⟨w.heap.size + 1, 1, none⟩ = some (.int .i64 q1) := c1
  have hl := hQ.out.1.2.1.lt
  have n1 : ¬ w.heap.size + 1 = W5.heap.size := by omega
  have n2 : ¬ W5.heap.size = w.heap.size + 1 := by omega
  have n3 : ¬ w.heap.size = W5.heap.size := by omega
  clear c1
  go_cut [12] (fun p wx => ∃ b12, p = .pointer (some ⟨b12, 0, none⟩) ∧ Hid (Rd3 w h q0 q1 w4.heap.size b12 [s, T1, A, T3, T4] wx))
  case first =>
    go_region
    all_goals
      go_wp2
      go_meet
      case rel => first
        | exact ⟨_, rfl, Lib.hid (rd3_a hQ.out s T1 A T3 T4 _ _)⟩
        | exact ⟨_, rfl, Lib.hid (rd3_b hQ.out s T1 A T3 T4 _ _)⟩
  case rest =>
    obtain ⟨x1, hx1⟩ : ∃ v, v = wc := ⟨_, rfl⟩
    subst hx1
    clear hQ c1' hl n1 n2 n3 kb k0 k1 k2 k3 k4 eA eB eB2 TX RX CM
    obtain ⟨b12, rfl, hQ⟩ := hcut
    obtain ⟨ts, ets⟩ : ∃ ts, [s, T1, A, T3, T4] = ts := ⟨_, rfl⟩
    rw [ets] at hQ
    clear ets hv hw zX e64 m0 m1
    obtain ⟨b10, e10⟩ : ∃ b, w4.heap.size = b := ⟨_, rfl⟩
    rw [e10] at hQ
    rw [e10]
    clear e10
    go_wp2_with fail
    go_loopw [13, 14, 15, 16, 17] (fun i _ _ _ _ wr => ∃ j : Nat, j ≤ 5 ∧ i = .int .i64 j ∧ Hid (Rd3 w h q0 q1 b10 b12 ts wr)) (fun i _ _ _ _ _ => 5 - (intOf i).toNat)
    case atStart => exact ⟨0, by omega, rfl, hQ⟩
    clear hQ
    case round =>
      obtain ⟨j, hj, rfl, hQ⟩ := hrel
      by_cases hlt : j < 5
      · have HLT := Lib.hid hlt
        have hc := hQ.out.2.2 j hlt
        have hcl := hQ.out.2.1
        have i1 : (j : Int) < 5 := by omega
        obtain ⟨t, et⟩ : ∃ t, ts.getD j ByteArray.empty = t := ⟨_, rfl⟩
        rw [et] at hc
        have R1 := Lib.hid (fun w' => read_c t w')
        have R2 := Lib.hid (fun w' => refRead_c t w')
        have hL := readL_length t
        obtain ⟨L, eL⟩ : ∃ L, Sha.readL t = L := ⟨_, rfl⟩
        obtain ⟨ok, eok⟩ : ∃ b, Sha.readOk t = b := ⟨_, rfl⟩
        rw [eL, eok] at R1 R2
        rw [eL] at hL
        unfold hashV at R1 R2
        have hql := fun w' => hash_eq L L hL hL w'
        simp only [beq_self_eq_true] at hql
        have HC := Lib.hid (And.intro hcl et)
        clear et eL eok hlt hcl
        go_upto_region 11 with fail
        go_cut [14, 15] (fun p e wx => ∃ b14, p = .pointer (some ⟨b14, 0, none⟩) ∧ e = .bool ok ∧ Hid (Rd3 w h q0 q1 b10 b12 ts wx ∧ Blk .u8 wx b14 24 L))
        case first =>
          go_wp2_with (first
            | (go_at_call 18; refine (R1.out _).mono ?_; rintro e wa ⟨rfl, hb⟩; have hQ2 := Lib.hid (hQ.out.below hb); clear hb)
            | refine store_blk (b := wa.heap.size) (zeros_new wa _ _ .u8 32 _ rfl (by rfl)) rfl _ _ rfl rfl L rfl hL (by kernel_rfl) ?_)
          go_meet
          case rel => exact ⟨_, rfl, rfl, Lib.hid ⟨(rd3_store hQ2.out _ (by rfl) L).1, (rd3_store hQ2.out _ (by rfl) L).2.1⟩⟩
        case rest =>
          obtain ⟨x2, hx2⟩ : ∃ v, v = wc := ⟨_, rfl⟩
          subst hx2
          clear hQ R1 hc
          obtain ⟨b14, rfl, rfl, hQ⟩ := hcut
          have hc := hQ.out.1.2.2 j HLT.out
          rw [HC.out.2] at hc
          go_upto_region 12 with fail
          go_cut [16, 17] (fun p e wx => ∃ b16, p = .pointer (some ⟨b16, 0, none⟩) ∧ e = .bool ok ∧ Hid (Rd3 w h q0 q1 b10 b12 ts wx ∧ Blk .u8 wx b14 24 L ∧ Blk .u8 wx b16 24 L))
          case first =>
            go_wp2_with (first
              | (go_at_call 19; refine (R2.out _).mono ?_; rintro e wb ⟨rfl, hb⟩; have hQ2 : Hid (Rd3 w h q0 q1 b10 b12 ts wb ∧ Blk .u8 wb b14 24 L) := Lib.hid ⟨hQ.out.1.below hb, hQ.out.2.below hb hQ.out.2.lt⟩; clear hb)
              | refine store_blk (b := wb.heap.size) (zeros_new wb _ _ .u8 32 _ rfl (by rfl)) rfl _ _ rfl rfl L rfl hL (by kernel_rfl) ?_)
            go_meet
            case rel =>
              have hs := rd3_store hQ2.out.1 _ (by rfl) L
              exact ⟨_, rfl, rfl, Lib.hid ⟨hs.1, hQ2.out.2.below hs.2.2 hQ2.out.2.lt, hs.2.1⟩⟩
          case rest =>
            obtain ⟨x3, hx3⟩ : ∃ v, v = wc := ⟨_, rfl⟩
            subst hx3
            clear hQ R2 hc
            obtain ⟨b16, rfl, rfl, hQ⟩ := hcut
            have hok : (ok != ok) = false := by simp
            go_wp2_with (first
              | refine load_blk hQ.out.2.1 rfl _ rfl rfl 32 5 (by kernel_rfl) (by rw [hL]; kernel_rfl) ?_
              | refine load_blk hQ.out.2.2 rfl _ rfl rfl 32 5 (by kernel_rfl) (by rw [hL]; kernel_rfl) ?_)
            exact ⟨⟨j + 1, HLT.out, by go_num, Lib.hid hQ.out.1⟩, by have := HLT.out; simp only [intOf]; omega⟩
      · obtain rfl : j = 5 := by omega
        have i1 : ¬ ((5 : Nat) : Int) < 5 := by omega
        have hqh := fun w' => hash_eq h h HA.out.1.1 HA.out.1.1 w'
        simp only [beq_self_eq_true] at hqh
        have hll := HA.out.1.1
        go_wp2_with (first
          | refine load_blk_g hQ.out.1.2 (by kernel_rfl) _ rfl rfl 32 5 (by kernel_rfl) (by rw [hll]; kernel_rfl) ?_
          | refine load_blk_g hQ.out.1.1.1 (by kernel_rfl) _ rfl rfl 32 5 (by kernel_rfl) (by rw [hll]; kernel_rfl) ?_)
        go_ret
        exact ⟨rfl, hQ.out.1.1.2.2⟩
end Go.Proofs.YtjhljkcbbipeeaaDoor
