/- The reference's Strings. -/
import Derived.Test.YtkjdfjpfghpofaaDoorUl
namespace Go.Proofs.YtkjdfjpfghpofaaDoor.Tree

/-- The string that a number determines, at its place. -/
def strOf (x : Int) (k : Nat) : ByteArray := strOfNums [97 + x % 5, (k : Int)]
def strs (l : List Int) (n : Nat) : List ByteArray := (List.range n).map fun k => strOf (l.getD k 0) k
theorem strs_length (l : List Int) (n : Nat) : (strs l n).length = n := by simp [strs]
theorem strs_succ (l : List Int) (n : Nat) : strs l (n + 1) = strs l n ++ [strOf (l.getD n 0) n] := by simp [strs, List.range_succ]
/-- What Strings gives. -/
def strings (l : List Int) : List ByteArray := strs l (min l.length 20)
theorem strings_length (l : List Int) : (strings l).length = min l.length 20 := strs_length _ _
theorem strs_size (l : List Int) (n : Nat) : ∀ s ∈ strs l n, s.size = 2 := by
  intro s hs
  obtain ⟨k, _, rfl⟩ := List.mem_map.1 hs
  rw [strOf, strOfNums_size]; rfl
end Go.Proofs.YtkjdfjpfghpofaaDoor.Tree
namespace Go.Proofs.YtkjdfjpfghpofaaDoor
open Go.RowKit

/-- Small numbers in memory. -/
def NumsV (w : World) (v : Value) (l : List Int) : Prop :=
  (∀ x ∈ l, 0 ≤ x ∧ x ≤ 255) ∧ ((l = [] ∧ ∃ a c, v = .slice a 0 c) ∨ (0 < l.length ∧ ∃ b off cap, v = .slice (some ⟨b, off, none⟩) l.length cap ∧ (l.length : Int) ≤ (cap : Int) ∧ (cap : Int) ≤ 9223372036854775807 ∧ b < w.heap.size ∧ ∀ i, i < l.length → w.cell? ⟨b, off + i, none⟩ = some (.int .u8 (l.getD i 0))))
theorem NumsV.below {w w' : World} {v : Value} {l : List Int} (h : NumsV w v l) (hb : Below w.heap.size w w') : NumsV w' v l :=
  ⟨h.1, h.2.imp id fun ⟨h0, b, off, cap, h1, h2, h5, h3, h4⟩ => ⟨h0, b, off, cap, h1, h2, h5, Nat.lt_of_lt_of_le h3 hb.size, fun i hi => (hb.cell (p := ⟨b, off + i, none⟩) h3).trans (h4 i hi)⟩⟩
theorem NumsV.shape {w : World} {v : Value} {l : List Int} (h : NumsV w v l) : ∃ a c, v = .slice a l.length c := by
  rcases h.2 with ⟨rfl, a, c, rfl⟩ | ⟨h0, b, off, cap, rfl, _⟩
  · exact ⟨a, c, rfl⟩
  · exact ⟨_, _, rfl⟩
/-- A row of strings of the call's own. -/
abbrev StrsR (w : World) (base : Nat) (v : Value) (l : List ByteArray) : Prop := w.ownsRow base 9 1 v l.length (l.map Value.string)
theorem strsR_nil (w : World) (base : Nat) : StrsR w base (.slice none 0 0) [] := ⟨rfl, .inl ⟨rfl, rfl⟩⟩
theorem two_str (u v : Int) (w : World) : (convert 30 9 (.slice (some ⟨w.heap.size, 0, none⟩) 2 2)).run Tryd.prog (w.alloc (.cells #[.int .u8 u, .int .u8 v] 5)) = .ok (.string (strOfNums [u, v])) (w.alloc (.cells #[.int .u8 u, .int .u8 v] 5)) :=
  run_convert_bytes_arg _ 30 5 (by kernel_rfl) (by kernel_rfl) w.heap.size 0 2 2 [u, v] rfl (fun i hi => by
    match i, hi with
    | 0, _ => simp [go_sem]
    | 1, _ => simp [go_sem]) 9 (by kernel_rfl)
theorem infoStr : (Tryd.prog.info? 9).map (fun i => (i.zero, i.size, i.bytes)) = some (some (.string ⟨#[]⟩), 1, 16) := by kernel_rfl
theorem news_one (w : World) (T : TypeId) (a : Value) (n : Nat) (hn : n = w.heap.size) (j : Nat) (u : Value) (h : [a][j]? = some u) : (w.alloc (.cells #[a] T)).cell? ((⟨n, 0, none⟩ : Addr).add j) = some u := by
  subst hn
  match j, h with
  | 0, h => simp at h; subst h; simp [go_sem, Addr.add]

set_option maxRecDepth 100000 in
set_option maxHeartbeats 1000000 in
theorem refStrings_c (v : Value) (l : List Int) (w : World) (hv : NumsV w v l) :
    Calls Tryd.prog 20 #[v] w fun e w' => ∃ u, e = .returned u ∧ StrsR w' w.heap.size u (Tree.strings l) ∧ Below w.heap.size w w' := by
  obtain ⟨i0, hj0, hz0, hz1, hz2⟩ := info_parts infoStr
  obtain ⟨a, c, rfl⟩ := hv.shape
  have HV := Lib.hid hv
  clear hv
  go_enter Tryd.func20, Tryd.ntmps20
  go_wp2_with fail
  go_loopw [3, 4] (fun u i wr => ∃ j : Nat, j ≤ min l.length 20 ∧ i = .int .i64 j ∧ Hid (StrsR wr w.heap.size u (Tree.strs l j) ∧ Below w.heap.size w wr)) (fun _ i _ => min l.length 20 - (intOf i).toNat)
  case atStart => exact ⟨0, by omega, rfl, Lib.hid ⟨strsR_nil _ _, Below.refl _ _⟩⟩
  case round =>
    obtain ⟨j, hj, rfl, hQ⟩ := hrel
    by_cases hlt : j < min l.length 20
    · obtain ⟨b, off, cap, e1, hc, hm, hb, hcell⟩ : ∃ b off cap, Value.slice a l.length c = .slice (some ⟨b, off, none⟩) l.length cap ∧ (l.length : Int) ≤ (cap : Int) ∧ (cap : Int) ≤ 9223372036854775807 ∧ b < w.heap.size ∧ ∀ i, i < l.length → w.cell? ⟨b, off + i, none⟩ = some (.int .u8 (l.getD i 0)) := by
        rcases HV.out.2 with ⟨he, _⟩ | ⟨_, h⟩
        · rw [he] at hlt; simp at hlt
        · exact h
      injection e1 with e1 _ e1c
      subst e1 e1c
      have c0 := (hQ.out.2.cell (p := ⟨b, off + j, none⟩) hb).trans (hcell j (by omega))
      have hx := HV.out.1 (l.getD j 0) (by
        rw [List.getD_eq_getElem?_getD, List.getElem?_eq_getElem (by omega)]
        exact List.getElem_mem _)
      have hs := Tree.strs_succ l j
      have hsl := Tree.strs_length l j
      obtain ⟨X, eX⟩ : ∃ X, Tree.strs l j = X := ⟨_, rfl⟩
      obtain ⟨x, ex⟩ : ∃ x, l.getD j 0 = x := ⟨_, rfl⟩
      rw [eX] at hQ hs hsl; rw [ex] at c0 hx hs
      unfold Tree.strOf at hs
      have z1 : x.tmod 5 = x % 5 := Int.tmod_eq_emod_of_nonneg hx.1
      obtain ⟨y, ey⟩ : ∃ y, 97 + x % 5 = y := ⟨_, rfl⟩
      have hy : 0 ≤ y ∧ y ≤ 255 := by omega
      have kb := two_str y (j : Int)
      obtain ⟨S, eS⟩ : ∃ S, strOfNums [y, (j : Int)] = S := ⟨_, rfl⟩
      rw [ey, eS] at hs
      rw [eS] at kb
      have HX := Lib.hid (And.intro hs (And.intro hsl (And.intro hlt (And.intro hb hx))))
      have i1 : (j : Int) < (l.length : Int) := by omega
      have i2 : (j : Int) < 20 := by omega
      have n1 : ¬ b = wr.heap.size := by have := hQ.out.2.size; omega
      clear hcell hb hs hsl hlt eX ex eS hj hm hx
      go_wp2_with (at_builtin; refine wpList_append_lies _ rfl _ _ 22 rfl w.heap.size 9 i0 _ 1 16 Tryd.underlying22 hj0 hz0 hz1 hz2 rfl (by decide) _ X.length (X.map Value.string) rfl ((hQ.out.1.alloc _).alloc _) _ 1 1 [Value.string S] rfl rfl (fun j u hu => news_one _ _ _ _ (by simp) j u hu) (by simp [Value.oneCell']) (by decide) (by have := HX.out; unfold maxLen; omega) (by have := HX.out; omega) (by have := hQ.out.2.size; simp; omega) _ rfl ?_; intro g5 cap5 w5 hown hgrow hlie hlt5; have HO5 := Lib.hid hown; have HG5 := Lib.hid hgrow; clear hown hgrow hlie hlt5)
      refine ⟨⟨j + 1, by have := HX.out.2.2.1; omega, by go_num, Lib.hid ⟨?_, ?_⟩⟩, by have := HX.out.2.2.1; simp only [intOf]; omega⟩
      · rw [HX.out.1]
        have e := HO5.out
        show World.ownsRow _ _ _ _ _ (X ++ [S]).length ((X ++ [S]).map Value.string)
        rw [List.length_append, List.map_append]
        exact e
      · exact Below.grown ((hQ.out.2.alloc hQ.out.2.size _).alloc (by have := hQ.out.2.size; simp; omega) _) HG5.out (by have := hQ.out.2.size; simp; omega) (fun q hq => (hQ.out.1.lt q hq).1)
    · obtain hj : j = min l.length 20 := by omega
      rw [hj] at hQ
      have HQ := Lib.hid hQ.out
      by_cases h1 : (j : Int) < (l.length : Int)
      · have h2 : ¬ (j : Int) < 20 := by omega
        clear hlt hj
        go_wp2_with fail
        go_ret
        exact ⟨_, rfl, HQ.out.1, HQ.out.2⟩
      · clear hlt hj
        go_wp2_with fail
        go_ret
        exact ⟨_, rfl, HQ.out.1, HQ.out.2⟩
end Go.Proofs.YtkjdfjpfghpofaaDoor
