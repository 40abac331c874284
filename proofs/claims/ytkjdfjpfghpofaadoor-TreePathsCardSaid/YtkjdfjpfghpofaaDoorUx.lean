/- A path of a list leads to its root; the reference's HeadOf. -/
import Derived.Test.YtkjdfjpfghpofaaDoorUt
import Derived.Test.YtkjdfjpfghpofaaDoorUv
import Derived.Test.YtkjdfjpfghpofaaDoorUw
namespace Go.Proofs.YtkjdfjpfghpofaaDoor.Tree

theorem climb_root (l : List ByteArray) (n : Nat) : ∀ (k : Nat) (p : Part), p.b - p.a ≤ k → p.a ≤ n → n < p.b → p.b ≤ l.length →
    climb (down isOne n p).2 (rootsOf l (down isOne n p).2) (leaf (l.getD n ByteArray.empty)) = root (seg l p.a p.b)
  | 0, p, hk, h1, h2, _ => by omega
  | k + 1, p, hk, h1, h2, h3 => by
    have hl := seg_length l p.a p.b h3
    by_cases h : p.b - p.a = 1
    · rw [down_end _ _ _ (by simp [isOne, h]), root_one _ (by omega)]
      obtain rfl : n = p.a := by omega
      have e : (seg l p.a p.b).getD 0 ByteArray.empty = l.getD p.a ByteArray.empty := by
        have : p.a < p.b := by omega
        simp [seg, List.getD_eq_getElem?_getD, List.getElem?_take, this]
      rw [e]; rfl
    · have g1 := half_pos (p.b - p.a)
      have g2 := half_lt (p.b - p.a) (by omega)
      have hm := root_more (seg l p.a p.b) (by omega)
      rw [hl, seg_take _ _ _ _ (by omega), seg_drop] at hm
      by_cases hn : n < p.a + half (p.b - p.a)
      · rw [down_left _ _ _ (by simp [isOne, h]) (by omega) hn, rootsOf_append, climb_append _ _ _ _ _ (by simp [rootsOf]), hm]
        rw [climb_root l n k ⟨p.a, p.a + half (p.b - p.a), true⟩ (by simp; omega) h1 hn (by simp; omega)]
        rfl
      · rw [down_right _ _ _ (by simp [isOne, h]) (by omega) hn, rootsOf_append, climb_append _ _ _ _ _ (by simp [rootsOf]), hm]
        rw [climb_root l n k ⟨p.a + half (p.b - p.a), p.b, false⟩ (by simp; omega) (by simp; omega) h2 h3]
        rfl
end Go.Proofs.YtkjdfjpfghpofaaDoor.Tree
namespace Go.Proofs.YtkjdfjpfghpofaaDoor
open Go.RowKit

/-- CheckPath accepts a string's own path. -/
theorem check_right (l : List ByteArray) (n : Nat) (hn : n < l.length) : checkL l.length n (l.getD n ByteArray.empty) (Tree.path l n) (Tree.root l) = true := by
  have hp := Tree.path_down l n l.length ⟨0, l.length, false⟩ (by simp) (by simp) hn (by simp)
  have hc := Tree.climb_root l n l.length ⟨0, l.length, false⟩ (by simp) (by simp) hn (by simp)
  simp only [Tree.seg_all, Nat.sub_zero] at hp hc
  have hd : decide (0 ≤ (n : Int) ∧ (n : Int) < (l.length : Int)) = true := by simpa using hn
  simp only [checkL, hd, Bool.true_and, Int.toNat_natCast]
  rw [hp, hc]
  simp [Tree.rootsOf]

theorem strs_of_own {w : World} {base : Nat} {v : Value} {l : List ByteArray} (h : StrsR w base v l) : StrsV w v l := by
  rcases h.2 with ⟨h1, h2⟩ | ⟨g, cap, cur, h1, h2, h3, h4, h5, h6, h7⟩
  · exact .inl ⟨List.length_eq_zero_iff.1 h2, none, 0, h1⟩
  · by_cases h0 : l.length = 0
    · exact .inl ⟨List.length_eq_zero_iff.1 h0, some ⟨g, 0, none⟩, cap, by rw [h1, h0]⟩
    · subst h1
      refine .inr ⟨by omega, g, 0, cap, rfl, by omega, by unfold maxLen at h5; omega, (h.lt g rfl).2, fun i hi => ?_⟩
      rw [Nat.zero_add, h.cellAt i (by omega)]
      simp [List.getD_eq_getElem?_getD, hi]
theorem StrsV.below {w w' : World} {v : Value} {l : List ByteArray} (h : StrsV w v l) (hb : Below w.heap.size w w') : StrsV w' v l :=
  h.imp id fun ⟨h0, b, off, cap, h1, h2, h3, h4⟩ => ⟨h0, b, off, cap, h1, h2, h3, h4.below hb h4.1⟩
theorem StrsV.shape {w : World} {v : Value} {l : List ByteArray} (h : StrsV w v l) : ∃ a c, v = .slice a l.length c := by
  rcases h with ⟨rfl, a, c, rfl⟩ | ⟨h0, b, off, cap, rfl, _⟩
  · exact ⟨a, c, rfl⟩
  · exact ⟨_, _, rfl⟩
/-- Root of the reference, of any list. -/
theorem refRoot_any (v : Value) (l : List ByteArray) (hss : ∀ s ∈ l, s.size ≤ 140737488351232) (w : World) (hv : StrsV w v l) :
    Calls Tryd.prog 17 #[v] w fun e w' => e = .returned (hashV (Tree.root l)) ∧ Below w.heap.size w w' := by
  rcases hv with ⟨rfl, a, c, rfl⟩ | ⟨hl, b, off, cap, rfl, hc, hm, hs⟩
  · exact refRoot_none _ ⟨a, c, rfl⟩ w
  · exact refRoot_c l.length b off cap l.length l w (Nat.le_refl _) rfl (by omega) hc (by omega) hss hs

theorem fold_off (f : Array Value → Value × Nat → Array Value) (hf : f = fun cs x => cs.setIfInBounds (1 + x.2) x.1) (zs cs : Array Value) (n : Nat) (a : Value) (rest : List Value) (hz : zs = (a :: rest).toArray) (hr : rest.length = n) (hc : cs.size = n) : Array.foldl f zs cs.zipIdx 0 n = (a :: cs.toList).toArray := by
  subst hf hz
  have hsz : cs.zipIdx.size = n := by simp [hc]
  rw [← hsz, ← Array.foldl_toList]
  obtain ⟨l⟩ := cs
  simp only [Array.toList_zipIdx]
  have key : ∀ (l : List Value) (k : Nat) (acc : Array Value), acc.size = 1 + k + l.length → ((l.zipIdx k).foldl (fun cs x => cs.setIfInBounds (1 + x.2) x.1) acc).toList = acc.toList.take (1 + k) ++ l := by
    intro l
    induction l with
    | nil => intro k acc h; simp at h ⊢; rw [List.take_of_length_le (by simp; omega)]
    | cons a l ih =>
      intro k acc h
      rw [List.zipIdx_cons, List.foldl_cons, ih (k + 1) _ (by simp at h ⊢; omega)]
      simp at h
      have hk : 1 + k < acc.toList.length := by simp; omega
      have e1 : (acc.toList.set (1 + k) a)[1 + k]? = some a := by rw [List.getElem?_set, if_pos rfl, if_pos hk]
      rw [show 1 + (k + 1) = (1 + k) + 1 by omega, List.take_add_one, Array.toList_setIfInBounds, e1, List.take_set_of_le (Nat.le_refl _)]
      simp
  apply Array.ext'
  have := key l 0 (a :: rest).toArray (by simp at hc; simp [hr, hc]; omega)
  simpa using this

set_option maxRecDepth 100000 in
set_option maxHeartbeats 1000000 in
theorem refHeadOf_c (v : Value) (l : List ByteArray) (hss : ∀ s ∈ l, s.size ≤ 140737488351232) (w : World) (hv : StrsV w v l) :
    Calls Tryd.prog 25 #[v] w fun e w' => e = .returned (headV l.length (Tree.root l)) ∧ Below w.heap.size w w' := by
  have CR := Lib.hid (fun w' (h : Below w.heap.size w w') => refRoot_any v l hss w' (hv.below h))
  obtain ⟨a, c, rfl⟩ := hv.shape
  have hr := (root_hash l).1
  obtain ⟨r, er⟩ : ∃ r, Tree.root l = r := ⟨_, rfl⟩
  rw [er] at CR hr
  rw [er]
  unfold hashV at CR
  obtain ⟨cs, ecs⟩ : ∃ cs, (r.map (Value.int .u8)).toArray = cs := ⟨_, rfl⟩
  have zc : cs.size = 32 := by rw [← ecs]; simp [hr]
  rw [ecs] at CR
  have HR := Lib.hid (And.intro hr ecs)
  clear er hr hv hss ecs
  go_enter Tryd.func25, Tryd.ntmps25
  go_wp2_with fail
  generalize hW : (w.alloc _) = W
  have hM : Hid (w.heap.size < W.heap.size ∧ Below w.heap.size w W ∧ ∃ zs : Array Value, zs.size = 33 ∧ W.heap[w.heap.size]? = some (.cells zs 38 (0, 0))) := by
    rw [← hW]; exact Lib.hid ⟨by simp, (Below.refl _ w).alloc (Nat.le_refl _) _, _, rfl, heap_alloc_new w _⟩
  clear hW
  refine (CR.out _ hM.out.2.1).mono ?_; rintro e w2 ⟨rfl, hb⟩
  have hM2 : Hid (w.heap.size < w2.heap.size ∧ Below w.heap.size w w2 ∧ ∃ zs : Array Value, zs.size = 33 ∧ w2.heap[w.heap.size]? = some (.cells zs 38 (0, 0))) := by
    obtain ⟨h1, h2, zs, h3, h4⟩ := hM.out
    exact Lib.hid ⟨Nat.lt_of_lt_of_le h1 hb.size, h2.trans (hb.mono h2.size), zs, h3, (hb.block _ h1).trans h4⟩
  clear hM hb
  obtain ⟨h1, h2, zs, h3, h4⟩ := hM2.out
  have HZ := Lib.hid (And.intro h3 h4)
  clear h1 h2 h3 h4
  have zr : (List.map (Value.int .u8) r).length = 32 := by rw [List.length_map, HR.out.1]
  have HZR := Lib.hid zr
  clear zr
  have hone : (headC l.length r).toArray.all (·.oneCell') = true := by
    rw [Array.all_eq_true_iff_forall_mem]
    intro v hv
    have hv2 : v = Value.int .i64 (l.length : Int) ∨ ∃ a, a ∈ r ∧ Value.int .u8 a = v := by simpa [headC] using hv
    rcases hv2 with rfl | ⟨y, _, rfl⟩ <;> rfl
  have HO := Lib.hid hone
  clear hone
  go_wp2_with (refine wpList_plain rfl fun _ hK' => wp_store_row 38 _ _ rfl w.heap.size (headC l.length r).toArray rfl (congrArg Value.agg (by rw [fold_off _ rfl _ cs 32 _ _ rfl (by rfl) zc, ← HR.out.2]; rfl)) 38 zs HZ.out.2 (by simp only [headC, List.size_toArray, List.length_cons, HZR.out]; kernel_rfl) (by simp only [headC, List.size_toArray, List.length_cons, HZR.out, HZ.out.1]) HO.out (hK' _ _ ?_))
  exact bodyPost_ret (results_cell_row Tryd.results25 _ _ w.heap.size 38 _ (0, 0) _ rfl (setRow_heap _ _ _ _ _ _ HZ.out.2) Tryd.underlying38 rfl (by simp only [headC, List.size_toArray, List.length_cons, HZR.out]; kernel_rfl)) rfl ⟨rfl, Below.setRow hM2.out.2.1 (Nat.le_refl _) _⟩
end Go.Proofs.YtkjdfjpfghpofaaDoor
