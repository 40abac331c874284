/- A hash of a path, put at its side: joined. -/
import Derived.Test.YtkjdfjpfghpofaaDoorUe
namespace Go.Proofs.YtkjdfjpfghpofaaDoor
open Go.RowKit

/-- What stands in memory while a hash is put at its side: the part's box, the two hashes' boxes, and the result's block. -/
def JoW (w : World) (h x : List Int) (wr : World) : Prop := Blk .u8 wr (w.heap.size + 1) 24 h ∧ Blk .u8 wr (w.heap.size + 1 + 1) 24 x ∧ Blk .u8 wr (w.heap.size + 1 + 1 + 1) 24 (List.replicate 32 0) ∧ Below w.heap.size w wr
theorem JoW.below {w wr w' : World} {h x : List Int} (k : JoW w h x wr) (hb : Below wr.heap.size wr w') : JoW w h x w' := ⟨k.1.below hb k.1.lt, k.2.1.below hb k.2.1.lt, k.2.2.1.below hb k.2.2.1.lt, k.2.2.2.trans (hb.mono k.2.2.2.size)⟩
theorem joW_start (w : World) (ps : Array Value) (P : TypeId) (h x : List Int) (cs ds zs : Array Value) (hc : (h.map (Value.int .u8)).toArray = cs) (hd : (x.map (Value.int .u8)).toArray = ds) (hz : zs = ((List.replicate 32 0).map (Value.int .u8)).toArray) :
    JoW w h x ((((w.alloc (.cells ps P)).alloc (.cells cs 24)).alloc (.cells ds 24)).alloc (.cells zs 24)) := by
  refine ⟨?_, ?_, zeros_new _ _ _ .u8 32 _ (by simp) hz, ((((Below.refl _ w).alloc (Nat.le_refl _) _).alloc (by simp) _).alloc (by simp; omega) _).alloc (by simp; omega) _⟩
  · have e := ((Blk.new (k := .u8) (T := 24) (w.alloc (.cells ps P)) h cs hc.symm).alloc (.cells ds 24)).alloc (.cells zs 24)
    simpa using e
  · have e := (Blk.new (k := .u8) (T := 24) ((w.alloc (.cells ps P)).alloc (.cells cs 24)) x ds hd.symm).alloc (.cells zs 24)
    simpa using e

set_option maxRecDepth 100000 in
set_option maxHeartbeats 1000000 in
theorem joined_c (p : Tree.Part) (h x : List Int) (hh : h.length = 32) (hx : x.length = 32) (w : World) (ht : Tabs w) :
    Calls Tryd.prog 43 #[partV p.a p.b p.first, hashV h, hashV x] w fun e w' => e = .returned (hashV (Tree.joined p h x)) ∧ Below w.heap.size w w' := by
  have HT := Lib.hid ht
  obtain ⟨a, b, f⟩ := p
  have C1 := Lib.hid (fun w' t => node_c h x hh hx w' t)
  have C2 := Lib.hid (fun w' t => node_c x h hx hh w' t)
  have l1 := (node_hash h x).1
  have l2 := (node_hash x h).1
  unfold Tree.joined
  obtain ⟨r1, e1⟩ : ∃ r, Tree.node h x = r := ⟨_, rfl⟩
  obtain ⟨r2, e2⟩ : ∃ r, Tree.node x h = r := ⟨_, rfl⟩
  rw [e1] at C1 l1 ⊢; rw [e2] at C2 l2 ⊢
  obtain ⟨cs, hc⟩ : ∃ cs, (h.map (Value.int .u8)).toArray = cs := ⟨_, rfl⟩
  obtain ⟨ds, hd⟩ : ∃ ds, (x.map (Value.int .u8)).toArray = ds := ⟨_, rfl⟩
  have zc : cs.size = 32 := by rw [← hc]; simp [hh]
  have zd : ds.size = 32 := by rw [← hd]; simp [hx]
  have HA := Lib.hid (And.intro hh (And.intro hx (And.intro hc (And.intro hd (And.intro l1 l2)))))
  unfold hashV
  rw [hc, hd]
  unfold hashV at C1 C2
  clear ht hh hx e1 e2 hc hd l1 l2
  cases f
  case true =>
    simp only [if_true]
    go_enter Tryd.func43, Tryd.ntmps43
    go_upto_region 2 with fail
    generalize hW : ((((w.alloc _).alloc _).alloc _).alloc _) = W
    have hJ : Hid (JoW w h x W) := by rw [← hW]; exact Lib.hid (joW_start _ _ _ _ _ _ _ _ HA.out.2.2.1 HA.out.2.2.2.1 (by rfl))
    clear hW
    go_wp2_with (first
      | refine load_blk hJ.out.1 rfl _ rfl rfl 32 5 (by kernel_rfl) (by rw [HA.out.1]; kernel_rfl) ?_
      | refine load_blk hJ.out.2.1 rfl _ rfl rfl 32 5 (by kernel_rfl) (by rw [HA.out.2.1]; kernel_rfl) ?_
      | (go_at_call 18; refine (C1.out _ (HT.out.below hJ.out.2.2.2)).mono ?_; rintro e w1 ⟨rfl, hb⟩; have hK := Lib.hid (hJ.out.below hb); clear hb)
      | refine store_blk hK.out.2.2.1 rfl _ _ rfl rfl r1 rfl HA.out.2.2.2.2.1 (by kernel_rfl) ?_)
    exact bodyPost_ret (Blk.result (hK.out.2.2.1.row r1) Tryd.results43 _ rfl 32 5 (by kernel_rfl) (by rw [HA.out.2.2.2.2.1]; kernel_rfl)) rfl ⟨rfl, Below.setRow hK.out.2.2.2 (by omega) _⟩
  case false =>
    simp only [Bool.false_eq_true, if_false]
    go_enter Tryd.func43, Tryd.ntmps43
    go_upto_region 3 with fail
    generalize hW : ((((w.alloc _).alloc _).alloc _).alloc _) = W
    have hJ : Hid (JoW w h x W) := by rw [← hW]; exact Lib.hid (joW_start _ _ _ _ _ _ _ _ HA.out.2.2.1 HA.out.2.2.2.1 (by rfl))
    clear hW
    go_wp2_with (first
      | refine load_blk hJ.out.1 rfl _ rfl rfl 32 5 (by kernel_rfl) (by rw [HA.out.1]; kernel_rfl) ?_
      | refine load_blk hJ.out.2.1 rfl _ rfl rfl 32 5 (by kernel_rfl) (by rw [HA.out.2.1]; kernel_rfl) ?_
      | (go_at_call 18; refine (C2.out _ (HT.out.below hJ.out.2.2.2)).mono ?_; rintro e w1 ⟨rfl, hb⟩; have hK := Lib.hid (hJ.out.below hb); clear hb)
      | refine store_blk hK.out.2.2.1 rfl _ _ rfl rfl r2 rfl HA.out.2.2.2.2.2 (by kernel_rfl) ?_)
    exact bodyPost_ret (Blk.result (hK.out.2.2.1.row r2) Tryd.results43 _ rfl 32 5 (by kernel_rfl) (by rw [HA.out.2.2.2.2.2]; kernel_rfl)) rfl ⟨rfl, Below.setRow hK.out.2.2.2 (by omega) _⟩
end Go.Proofs.YtkjdfjpfghpofaaDoor
