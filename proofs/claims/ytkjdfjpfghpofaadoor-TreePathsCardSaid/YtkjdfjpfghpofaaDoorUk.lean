/- Lists of hashes: appendRoots. -/
import Derived.Test.YtkjdfjpfghpofaaDoorUj
import Derived.Test.YtkjdfjpfghpofaaDoorUd
namespace Go.Proofs.YtkjdfjpfghpofaaDoor
open Go.RowKit

/-- A hash's cells. -/
def hashC (h : List Int) : List Value := h.map (Value.int .u8)
theorem flat_hashes (l : List (List Int)) (h : ∀ x ∈ l, x.length = 32) : (l.flatMap hashC).length = l.length * 32 := by
  induction l with
  | nil => rfl
  | cons p r ih => rw [List.flatMap_cons, List.length_append, ih (fun x hx => h x (by simp [hx])), List.length_cons, show (hashC p).length = 32 by simp [hashC, h p (by simp)]]; omega
/-- A row of hashes of the call's own. -/
abbrev HashR (w : World) (base : Nat) (v : Value) (hs : List (List Int)) : Prop := w.ownsRow base 24 32 v hs.length (hs.flatMap hashC)
/-- Parts in a block. -/
def PartsAt (w : World) (g : Nat) (R : List Tree.Part) : Prop := g < w.heap.size ∧ ∀ j (hj : j < R.length), w.cell? ⟨g, j * 3, none⟩ = some (.int .i64 (R[j]).a) ∧ w.cell? ⟨g, j * 3 + 1, none⟩ = some (.int .i64 (R[j]).b) ∧ w.cell? ⟨g, j * 3 + 2, none⟩ = some (.bool (R[j]).first)
theorem PartsAt.below {B : Nat} {w w' : World} {g : Nat} {R : List Tree.Part} (h : PartsAt w g R) (hb : Below B w w') (hB : g < B) : PartsAt w' g R :=
  ⟨Nat.lt_of_lt_of_le h.1 hb.size, fun j hj => ⟨(hb.cell (p := ⟨g, _, none⟩) hB).trans (h.2 j hj).1, (hb.cell (p := ⟨g, _, none⟩) hB).trans (h.2 j hj).2.1, (hb.cell (p := ⟨g, _, none⟩) hB).trans (h.2 j hj).2.2⟩⟩
theorem flat_get (R : List Tree.Part) : ∀ (j i : Nat) (hj : j < R.length), i < 3 → (R.flatMap partC)[j * 3 + i]? = (partC (R[j]))[i]? := by
  induction R with
  | nil => intro j i hj; simp at hj
  | cons p r ih =>
    intro j i hj hi
    rw [List.flatMap_cons]
    have hp : (partC p).length = 3 := rfl
    cases j with
    | zero => rw [Nat.zero_mul, Nat.zero_add, List.getElem?_append_left (by omega)]; rfl
    | succ j =>
      rw [List.getElem?_append_right (by omega), hp, show (j + 1) * 3 + i - 3 = j * 3 + i by omega, ih j i (by simpa using hj) hi]
      rfl
theorem parts_of_own {w : World} {base : Nat} {R : List Tree.Part} {a : Option Addr} {c : Nat} (h : w.ownsRow base 66 3 (.slice a R.length c) R.length (R.flatMap partC)) (hR : 0 < R.length) : ∃ g, a = some ⟨g, 0, none⟩ ∧ base ≤ g ∧ PartsAt w g R := by
  rcases h.2 with ⟨h1, h2⟩ | ⟨g, cap, cur, h1, h2, h3, h4⟩
  · omega
  · obtain ⟨rfl, rfl⟩ : a = some ⟨g, 0, none⟩ ∧ c = cap := by injection h1 with e1 e2 e3; exact ⟨e1, e3⟩
    refine ⟨g, rfl, h2, ?_, fun j hj => ?_⟩
    · exact (h.lt g rfl).2
    · have k := fun i (hi : i < 3) => (h.cellAt (j * 3 + i) (by omega)).trans (flat_get R j i hj hi)
      exact ⟨k 0 (by omega), k 1 (by omega), k 2 (by omega)⟩
theorem news_row (w : World) (T : TypeId) (cs : Array Value) (l : List Value) (hl : cs = l.toArray) (n : Nat) (hn : n = w.heap.size) (j : Nat) (u : Value) (h : l[j]? = some u) : (w.alloc (.cells cs T)).cell? ((⟨n, 0, none⟩ : Addr).add j) = some u := by
  subst hn hl
  rw [Addr.add_mid]
  simp [go_sem, h]
theorem own_below {w w' : World} {base : Nat} {e : TypeId} {size : Nat} {v : Value} {n : Nat} {xs : List Value} (h : w.ownsRow base e size v n xs) (hb : Below w.heap.size w w') : w'.ownsRow base e size v n xs :=
  ⟨h.1, h.2.imp id fun ⟨g, cap, cur, hv, hg, hh, r⟩ => ⟨g, cap, cur, hv, hg, (hb.block g (h.lt g (by rw [hv]; rfl)).2).trans hh, r⟩⟩
theorem fold_set (f : Array Value → Value × Nat → Array Value) (hf : f = fun cs x => cs.setIfInBounds x.2 x.1) (zs cs : Array Value) (n : Nat) (hz : zs.size = n) (hc : cs.size = n) : Array.foldl f zs cs.zipIdx 0 n = cs := by
  subst hf
  have hsz : cs.zipIdx.size = n := by simp [hc]
  rw [← hsz, ← Array.foldl_toList]
  obtain ⟨l⟩ := cs
  simp only [Array.toList_zipIdx]
  have key : ∀ (l : List Value) (k : Nat) (acc : Array Value), acc.size = k + l.length → ((l.zipIdx k).foldl (fun cs x => cs.setIfInBounds x.2 x.1) acc).toList = acc.toList.take k ++ l := by
    intro l
    induction l with
    | nil => intro k acc h; simp at h ⊢; rw [List.take_of_length_le (by simp; omega)]
    | cons a l ih =>
      intro k acc h
      rw [List.zipIdx_cons, List.foldl_cons, ih (k + 1) _ (by simp at h ⊢; omega)]
      simp at h
      have hk : k < acc.toList.length := by simp; omega
      have e1 : (acc.toList.set k a)[k]? = some a := by rw [List.getElem?_set, if_pos rfl, if_pos hk]
      rw [List.take_add_one, Array.toList_setIfInBounds, e1, List.take_set_of_le (Nat.le_refl k)]
      simp
  apply Array.ext'
  have := key l 0 zs (by simp at hc; simp [hz, hc])
  simpa using this
theorem infoHash : (Tryd.prog.info? 24).map (fun i => (i.zero, i.size, i.bytes)) = some (some (.agg ((List.replicate 32 0).map (Value.int .u8)).toArray), 32, 32) := by kernel_rfl
theorem rootsOf_take (l : List ByteArray) (R : List Tree.Part) (j : Nat) (hj : j < R.length) : Tree.rootsOf l (R.take (j + 1)) = Tree.rootsOf l (R.take j) ++ [Tree.root (Tree.seg l (R[j]).a (R[j]).b)] := by
  rw [List.take_succ_eq_append_getElem hj, Tree.rootsOf_append]

set_option maxRecDepth 100000 in
set_option maxHeartbeats 600000 in
theorem appendRoots_c (v0 : Value) (hs : List (List Int)) (hs32 : ∀ x ∈ hs, x.length = 32) (hs2 : hs.length ≤ 1000) (l : List ByteArray) (b off cap n : Nat) (hl : l.length = n) (hc : (n : Int) ≤ (cap : Int)) (hmax : (cap : Int) ≤ 9223372036854775807) (hss : ∀ s ∈ l, s.size ≤ 140737488351232)
    (R : List Tree.Part) (a : Option Addr) (c : Nat) (hR2 : R.length ≤ 1000) (hRl : ∀ p ∈ R, p.a < p.b ∧ p.b ≤ n) (base : Nat) (w : World) (hbase : base ≤ w.heap.size) (hv : HashR w base v0 hs) (hst : StrsAt w b off l) (hb : b < base)
    (hp : 0 < R.length → ∃ g, a = some ⟨g, 0, none⟩ ∧ PartsAt w g R ∧ g < base) (ht : Tabs w) (htb : ∀ w', Below base w w' → Tabs w') :
    Calls Tryd.prog 41 #[v0, .slice (some ⟨b, off, none⟩) n cap, .slice a R.length c] w fun e w' => ∃ v, e = .returned v ∧ HashR w' base v (hs ++ Tree.rootsOf l R) ∧ Below base w w' := by
  obtain ⟨i0, hj0, hz0, hz1, hz2⟩ := info_parts infoHash
  have HH := Lib.hid (And.intro (And.intro hs32 hs2) (And.intro (And.intro hl hss) (And.intro hR2 (And.intro hRl (And.intro hbase hb)))))
  have HS := Lib.hid hst
  have HT := Lib.hid htb
  have HP := Lib.hid hp
  have HV := Lib.hid hv
  have HC := Lib.hid (And.intro hc hmax)
  clear hs32 hs2 hl hss hR2 hRl hbase hst hp ht htb hv hc hmax hb
  go_enter Tryd.func41, Tryd.ntmps41
  go_wp2_with fail
  go_loopw [0, 8, 11] (fun v _ i wr => ∃ j : Nat, j ≤ R.length ∧ i = .int .i64 j ∧ Hid (HashR wr base v (hs ++ Tree.rootsOf l (R.take j)) ∧ Below base w wr)) (fun _ _ i _ => R.length - (intOf i).toNat)
  case atStart => exact ⟨0, by omega, rfl, Lib.hid ⟨by simpa [Tree.rootsOf] using HV.out, Below.refl _ _⟩⟩
  clear HV
  case round =>
    obtain ⟨j, hj, rfl, hM⟩ := hrel
    by_cases hlt : j < R.length
    · obtain ⟨g, rfl, hg, hgb⟩ := HP.out (by omega)
      have hg' := hg.below hM.out.2 hgb
      obtain ⟨p0, p1, p2⟩ := hg'.2 j hlt
      obtain ⟨hab, hbn⟩ := HH.out.2.2.2.1 _ (List.getElem_mem hlt)
      have hsl := Tree.seg_length l (R[j]).a (R[j]).b (by have := HH.out.2.1.1; omega)
      have hrt := rootsOf_take l R j hlt
      obtain ⟨X, eX⟩ : ∃ X, hs ++ Tree.rootsOf l (R.take j) = X := ⟨_, rfl⟩
      have hX : X.length ≤ 2000 := by rw [← eX, List.length_append, Tree.rootsOf, List.length_map, List.length_take]; have := HH.out; omega
      rw [eX] at hM
      have HX := Lib.hid (And.intro eX hX)
      clear eX hX
      obtain ⟨pa, epa⟩ : ∃ y, (R[j]).a = y := ⟨_, rfl⟩
      obtain ⟨pb, epb⟩ : ∃ y, (R[j]).b = y := ⟨_, rfl⟩
      obtain ⟨pf, epf⟩ : ∃ y, (R[j]).first = y := ⟨_, rfl⟩
      rw [epa] at p0 hab hsl hrt; rw [epb] at p1 hab hbn hsl hrt; rw [epf] at p2
      have CR : Hid (∀ w', Below base w w' → Calls Tryd.prog 16 #[.slice (some ⟨b, off + pa, none⟩) (pb - pa) (cap - pa)] w' fun e w'' => e = .returned (hashV (Tree.root (Tree.seg l pa pb))) ∧ Below w'.heap.size w' w'') :=
        Lib.hid (fun w' hb => root_c b (off + pa) (cap - pa) (pb - pa) (Tree.seg l pa pb) hsl (by omega) (by have := HC.out; omega) (by have := HC.out; omega) (fun s hs => HH.out.2.1.2 s (List.mem_of_mem_take (List.mem_of_mem_drop hs))) w' (HT.out w' hb) (((HS.out.take pb).drop pa).below hb HH.out.2.2.2.2.2))
      have hh := (root_hash (Tree.seg l pa pb)).1
      obtain ⟨r, er⟩ : ∃ r, Tree.root (Tree.seg l pa pb) = r := ⟨_, rfl⟩
      rw [er] at CR hh hrt
      obtain ⟨cs, ecs⟩ : ∃ cs, (r.map (Value.int .u8)).toArray = cs := ⟨_, rfl⟩
      have zc : cs.size = 32 := by rw [← ecs]; simp [hh]
      unfold hashV at CR
      rw [ecs] at CR
      have HLT := Lib.hid (And.intro hlt (And.intro hrt (And.intro hh (And.intro ecs (And.intro hg hgb)))))
      have i1 : (pa : Int) ≤ (pb : Int) := by omega
      have i2 : (pb : Int) ≤ (cap : Int) := by have := HC.out; omega
      have i4 : ¬ pa = cap := by have := HC.out; omega
      have i5 : ¬ cap = pa := by omega
      have i6 : (pa : Int) < (cap : Int) := by have := HC.out; omega
      have i7 : (R.length : Int) ≤ 1000 := by have := HH.out; omega
      have i3 : (j : Int) < (R.length : Int) := by omega
      have n1 : ¬ g = wr.heap.size := by have := hg'.1; omega
      have n2 : ¬ wr.heap.size = g := by omega
      clear hg' hab hbn hsl hrt epa epb epf er hh ecs hlt hg hgb hj
      go_wp2_with fail
      have hB1 : Below base w (wr.alloc (.cells #[.int .i64 pa, .int .i64 pb, .bool pf] 66)) := hM.out.2.alloc (Nat.le_trans HH.out.2.2.2.2.1 hM.out.2.size) _
      refine (CR.out _ hB1).mono ?_
      rintro e w2 ⟨rfl, hb⟩
      have hB2 := Lib.hid (hB1.trans (hb.mono (Nat.le_trans HH.out.2.2.2.2.1 hB1.size)))
      have hO2 := Lib.hid (own_below (own_below hM.out.1 ((Below.refl _ wr).alloc (Nat.le_refl _) (.cells #[.int .i64 pa, .int .i64 pb, .bool pf] 66))) hb)
      clear hB1 hb p0 p1 p2
      have hsz2 : w2.heap.size ≥ base := Nat.le_trans HH.out.2.2.2.2.1 hB2.out.size
      have HZ := Lib.hid (And.intro zc hsz2)
      clear hsz2
      go_wp2_with (at_builtin; refine wpList_append_lies _ rfl _ _ 32 rfl base 24 i0 _ 32 32 Tryd.underlying32 hj0 hz0 hz1 hz2 rfl (by decide) _ X.length (X.flatMap hashC) rfl (hO2.out.alloc _) _ 1 1 (hashC r) rfl (by rw [hashC, List.length_map, HLT.out.2.2.1]) (fun j u hu => news_row _ _ _ (hashC r) (by rw [fold_set _ rfl _ cs 32 rfl HZ.out.1, ← HLT.out.2.2.2.1]; rfl) _ (by rfl) j u hu) (fun u hu => by obtain ⟨y, _, rfl⟩ := List.mem_map.1 hu; rfl) (by decide) (by have := HX.out.2; unfold maxLen; omega) (by have := HX.out.2; omega) (by have := HZ.out.2; simp; omega) _ rfl ?_; intro g5 cap5 w5 hown hgrow hlie hlt5; have HO5 := Lib.hid hown; have HG5 := Lib.hid hgrow; clear hown hgrow hlie hlt5)
      refine ⟨⟨j + 1, HLT.out.1, by go_num, Lib.hid ⟨?_, ?_⟩⟩, by have := HLT.out.1; simp only [intOf]; omega⟩
      · rw [HLT.out.2.1, ← List.append_assoc, HX.out.1]
        have e := HO5.out
        show World.ownsRow _ _ _ _ _ (X ++ [r]).length ((X ++ [r]).flatMap hashC)
        rw [List.length_append, List.flatMap_append, show [r].flatMap hashC = hashC r by simp]
        exact e
      · exact Below.grown (hB2.out.alloc (HZ.out.2) _) HG5.out (by have := HZ.out.2; simp; omega) (fun q hq => (hO2.out.lt q hq).1)
    · obtain rfl : j = R.length := by omega
      have i3 : ¬ (R.length : Int) < (R.length : Int) := by omega
      go_wp2_with fail
      go_ret
      have e := hM.out
      rw [List.take_length] at e
      exact ⟨_, rfl, e.1, e.2⟩
end Go.Proofs.YtkjdfjpfghpofaaDoor
