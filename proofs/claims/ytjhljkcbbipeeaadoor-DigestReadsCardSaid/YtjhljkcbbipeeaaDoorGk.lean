/- The order of two hashes: Less of both sides. -/
import Derived.Test.YtjhljkcbbipeeaaDoorGk0
namespace Go.Proofs.YtjhljkcbbipeeaaDoor
open Go.RowKit

/-- The two hashes' blocks. -/
def LessW (w : World) (a b : List Int) (wr : World) : Prop := Blk .u8 wr w.heap.size 24 a ∧ Blk .u8 wr (w.heap.size + 1) 24 b ∧ Below w.heap.size w wr
theorem lessW_start (w : World) (a b : List Int) (cs ds : Array Value) (hc : (a.map (Value.int .u8)).toArray = cs) (hd : (b.map (Value.int .u8)).toArray = ds) :
    LessW w a b ((w.alloc (.cells cs 24)).alloc (.cells ds 24)) := by
  have hB : Below w.heap.size w ((w.alloc (.cells cs 24)).alloc (.cells ds 24)) := by (repeat' (first | (with_reducible exact Below.refl _ _) | (with_reducible assumption) | (with_reducible refine bdn ?_ _) | (with_reducible refine Below.drew ?_) | (with_reducible refine Below.alloc ?_ ?_ _) | (with_reducible refine Below.setCell ?_ ?_ _) | go_size))
  refine ⟨(Blk.new w a cs hc.symm).alloc _, ?_, hB⟩
  have := Blk.new (k := .u8) (T := 24) (w.alloc (.cells cs 24)) b ds hd.symm
  simpa using this
theorem LessW.drewN {w wr : World} {a b : List Int} (h : LessW w a b wr) (n : Nat) : LessW w a b (wr.drewN n) := ⟨h.1, h.2.1, bdn h.2.2 n⟩

set_option maxRecDepth 100000 in
set_option maxHeartbeats 1000000 in
theorem refLess_c (a b : List Int) (ha : a.length = 32) (hb : b.length = 32) (w : World) :
    Calls Tryd.prog 21 #[hashV a, hashV b] w fun e w' => e = .returned (.bool (Sha.lexLt a b)) ∧ Below w.heap.size w w' := by
  obtain ⟨cs, hc⟩ : ∃ cs, (a.map (Value.int .u8)).toArray = cs := ⟨_, rfl⟩
  obtain ⟨ds, hd⟩ : ∃ cs, (b.map (Value.int .u8)).toArray = cs := ⟨_, rfl⟩
  have z1 : cs.size = 32 := by rw [← hc]; simp [ha]
  have z2 : ds.size = 32 := by rw [← hd]; simp [hb]
  have HW := Lib.hid (lessW_start w a b cs ds hc hd)
  have HL := Lib.hid (And.intro ha hb)
  unfold hashV
  rw [hc, hd]
  clear hc hd ha hb
  obtain ⟨r, hr⟩ : ∃ r, Sha.lexLt a b = r := ⟨_, rfl⟩
  have HR := Lib.hid hr
  rw [hr]
  clear hr
  go_enter Tryd.func21, Tryd.ntmps21
  go_wp2_with fail
  go_loopw [5] (fun i wr => ∃ n : Nat, n ≤ 32 ∧ i = .int .i64 n ∧ Hid (∀ i, i < n → a.getD i 0 = b.getD i 0) ∧ Hid (LessW w a b wr)) (fun i _ => 32 - (intOf i).toNat)
  case atStart => exact ⟨0, by omega, rfl, Lib.hid (fun i hi => absurd hi (Nat.not_lt_zero i)), HW⟩
  clear HW
  case round =>
    obtain ⟨n, hn, rfl, hE, hM⟩ := hrel
    by_cases hlt : n < 32
    · have c1 := hM.out.1.cell n (by rw [HL.out.1]; exact hlt)
      have c2 := hM.out.2.1.cell n (by rw [HL.out.2]; exact hlt)
      obtain ⟨x, hx⟩ : ∃ x, a.getD n 0 = x := ⟨_, rfl⟩
      obtain ⟨y, hy⟩ : ∃ x, b.getD n 0 = x := ⟨_, rfl⟩
      rw [hx] at c1; rw [hy] at c2
      have HX := Lib.hid (And.intro hx hy)
      have HLT := Lib.hid hlt
      have i0 : (0 : Int) ≤ (n : Int) := by omega
      have i1 : (n : Int) < 32 := by omega
      clear hx hy
      by_cases hxy : x = y
      · have q : (x != y) = false := by simp [hxy]
        have HXY := Lib.hid hxy
        clear hxy
        go_wp2_with fail
        go_quiet (fail)
        go_wp2_with fail
        exact ⟨⟨n + 1, HLT.out, by go_num, Lib.hid (fun i hi => by
          by_cases e : i = n
          · subst e; rw [HX.out.1, HX.out.2]; exact HXY.out
          · exact hE.out i (by omega)), Lib.hid (hM.out.drewN _)⟩, by have := HLT.out; simp only [intOf]; omega⟩
      · have q : (x != y) = true := by simp [hxy]
        have HXY := Lib.hid hxy
        clear hxy
        go_wp2_with fail
        go_quiet (fail)
        go_wp2_with fail
        go_quiet (fail)
        go_wp2_with fail
        go_ret
        refine ⟨?_, bdn (bdn hM.out.2.2 _) _⟩
        have e := Sha.lex_at n a b hE.out (by rw [HL.out.1]; exact HLT.out) (by rw [HL.out.2]; exact HLT.out) (by rw [HX.out.1, HX.out.2]; exact HXY.out)
        rw [HR.out, HX.out.1, HX.out.2] at e
        rw [e]; rfl
    · obtain rfl : n = 32 := by omega
      go_wp2_with fail
      go_ret
      refine ⟨?_, hM.out.2.2⟩
      have e := Sha.eq_of_getD a b (by rw [HL.out.1, HL.out.2]) (by rw [HL.out.1]; exact hE.out)
      have f := HR.out
      rw [e, Sha.lex_self] at f
      rw [← f]; rfl
set_option maxRecDepth 100000 in
set_option maxHeartbeats 1000000 in
theorem less_c (a b : List Int) (ha : a.length = 32) (hb : b.length = 32) (w : World) :
    Calls Tryd.prog 20 #[hashV a, hashV b] w fun e w' => e = .returned (.bool (Sha.lexLt a b)) ∧ Below w.heap.size w w' := by
  obtain ⟨cs, hc⟩ : ∃ cs, (a.map (Value.int .u8)).toArray = cs := ⟨_, rfl⟩
  obtain ⟨ds, hd⟩ : ∃ cs, (b.map (Value.int .u8)).toArray = cs := ⟨_, rfl⟩
  have z1 : cs.size = 32 := by rw [← hc]; simp [ha]
  have z2 : ds.size = 32 := by rw [← hd]; simp [hb]
  have HW := Lib.hid (lessW_start w a b cs ds hc hd)
  have HL := Lib.hid (And.intro ha hb)
  have hq := fun w' => hash_eq a b ha hb w'
  obtain ⟨r, hr⟩ : ∃ r, Sha.lexLt a b = r := ⟨_, rfl⟩
  have HR := Lib.hid hr
  unfold hashV
  rw [hc, hd, hr]
  clear hr
  cases hab : (a == b)
  · have hne : ¬ a = b := by simpa using hab
    have HN := Lib.hid hne
    simp only [hab] at hq
    clear hc hd ha hb hab hne
    go_enter Tryd.func20, Tryd.ntmps20
    go_wp2_with (first
      | refine load_blk HW.out.1 rfl _ rfl rfl 32 5 (by kernel_rfl) (by rw [HL.out.1]; kernel_rfl) ?_
      | refine load_blk HW.out.2.1 rfl _ rfl rfl 32 5 (by kernel_rfl) (by rw [HL.out.2]; kernel_rfl) ?_)
    go_loopw [5] (fun i wr => ∃ n : Nat, n < 32 ∧ i = .int .i64 n ∧ Hid (∀ i, i < n → a.getD i 0 = b.getD i 0) ∧ Hid (LessW w a b wr)) (fun i _ => 32 - (intOf i).toNat)
    case atStart => exact ⟨0, by omega, rfl, Lib.hid (fun i hi => absurd hi (Nat.not_lt_zero i)), HW⟩
    clear HW
    case round =>
      obtain ⟨n, hlt, rfl, hE, hM⟩ := hrel
      have c1 := hM.out.1.cell n (by rw [HL.out.1]; exact hlt)
      have c2 := hM.out.2.1.cell n (by rw [HL.out.2]; exact hlt)
      obtain ⟨x, hx⟩ : ∃ x, a.getD n 0 = x := ⟨_, rfl⟩
      obtain ⟨y, hy⟩ : ∃ x, b.getD n 0 = x := ⟨_, rfl⟩
      rw [hx] at c1; rw [hy] at c2
      have HX := Lib.hid (And.intro hx hy)
      have HLT := Lib.hid hlt
      have i0 : (0 : Int) ≤ (n : Int) := by omega
      have i1 : (n : Int) < 32 := by omega
      clear hx hy
      by_cases hxy : x = y
      · have q : (x == y) = true := by simp [hxy]
        have HXY := Lib.hid hxy
        clear hxy
        go_wp2_with fail
        go_quiet (fail)
        go_wp2_with fail
        have hE' : ∀ i, i < n + 1 → a.getD i 0 = b.getD i 0 := fun i hi => by
          by_cases e : i = n
          · subst e; rw [HX.out.1, HX.out.2]; exact HXY.out
          · exact hE.out i (by omega)
        refine ⟨⟨n + 1, ?_, by go_num, Lib.hid hE', Lib.hid (hM.out.drewN _)⟩, by have := HLT.out; simp only [intOf]; omega⟩
        rcases Nat.lt_or_ge (n + 1) 32 with h | h
        · exact h
        · exact absurd (Sha.eq_of_getD a b (by rw [HL.out.1, HL.out.2]) (fun i hi => hE' i (by rw [HL.out.1] at hi; omega))) HN.out
      · have q : (x == y) = false := by simp [hxy]
        have HXY := Lib.hid hxy
        clear hxy
        go_wp2_with fail
        go_quiet (fail)
        go_wp2_with fail
        go_quiet (fail)
        go_wp2_with fail
        go_ret
        refine ⟨?_, bdn (bdn hM.out.2.2 _) _⟩
        have e := Sha.lex_at n a b hE.out (by rw [HL.out.1]; exact HLT.out) (by rw [HL.out.2]; exact HLT.out) (by rw [HX.out.1, HX.out.2]; exact HXY.out)
        rw [HR.out, HX.out.1, HX.out.2] at e
        rw [e]; rfl
  · have he : a = b := by simpa using hab
    simp only [hab] at hq
    have HF : Hid (r = false) := Lib.hid (by rw [← HR.out, he, Sha.lex_self])
    clear hc hd ha hb hab he
    go_enter Tryd.func20, Tryd.ntmps20
    go_wp2_with (first
      | refine load_blk HW.out.1 rfl _ rfl rfl 32 5 (by kernel_rfl) (by rw [HL.out.1]; kernel_rfl) ?_
      | refine load_blk HW.out.2.1 rfl _ rfl rfl 32 5 (by kernel_rfl) (by rw [HL.out.2]; kernel_rfl) ?_)
    go_ret
    exact ⟨by rw [HF.out]; rfl, HW.out.2.2⟩
end Go.Proofs.YtjhljkcbbipeeaaDoor
