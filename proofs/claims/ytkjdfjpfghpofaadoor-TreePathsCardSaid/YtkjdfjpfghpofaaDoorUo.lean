/- The chapter's examples: what they say, plain; what stands in memory meanwhile. -/
import Derived.Test.YtkjdfjpfghpofaaDoorUn
namespace Go.Proofs.YtkjdfjpfghpofaaDoor
open Go.RowKit

theorem flat_hash (R : List (List Int)) (h : ∀ x ∈ R, x.length = 32) : ∀ (j i : Nat) (hj : j < R.length), i < 32 → (R.flatMap hashC)[j * 32 + i]? = (hashC R[j])[i]? := by
  induction R with
  | nil => intro j i hj; simp at hj
  | cons p r ih =>
    intro j i hj hi
    rw [List.flatMap_cons]
    have hp : (hashC p).length = 32 := by simp [hashC, h p (by simp)]
    cases j with
    | zero => rw [Nat.zero_mul, Nat.zero_add, List.getElem?_append_left (by omega)]; rfl
    | succ j =>
      rw [List.getElem?_append_right (by omega), hp, show (j + 1) * 32 + i - 32 = j * 32 + i by omega, ih (fun x hx => h x (by simp [hx])) j i (by simpa using hj) hi]
      rfl
theorem hashes_of_own {w : World} {base : Nat} {v : Value} {hs : List (List Int)} (h : HashR w base v hs) (hl : ∀ x ∈ hs, x.length = 32) : HashesV w v hs := by
  refine ⟨hl, ?_⟩
  rcases h.2 with ⟨h1, h2⟩ | ⟨g, cap, cur, h1, h2, h3, h4, h5, h6, h7⟩
  · exact .inl ⟨List.length_eq_zero_iff.1 h2, none, 0, h1⟩
  · by_cases h0 : hs.length = 0
    · exact .inl ⟨List.length_eq_zero_iff.1 h0, some ⟨g, 0, none⟩, cap, by rw [h1, h0]⟩
    · subst h1
      refine .inr ⟨by omega, g, 0, cap, rfl, by omega, by unfold maxLen at h5; omega, (h.lt g rfl).2, fun i hi j u hu => ?_⟩
      have hj : j < 32 := by
        have : j < (hashC hs[i]).length := (List.getElem?_eq_some_iff.1 hu).1
        simpa [hashC, hl _ (List.getElem_mem hi)] using this
      rw [Nat.zero_add, h.cellAt (i * 32 + j) (by omega), flat_hash hs hl i j hi hj, hu]

/-- The strings of the examples. -/
def exS : List ByteArray := [⟨#[97]⟩, ⟨#[98]⟩, ⟨#[99]⟩, ⟨#[100]⟩]
theorem half2 : Tree.half 2 = 1 := by decide
theorem half3 : Tree.half 3 = 2 := by decide
theorem half4 : Tree.half 4 = 2 := by decide
theorem root1 (s : ByteArray) : Tree.root [s] = Tree.leaf s := Tree.root_one [s] rfl
theorem root2 (s t : ByteArray) : Tree.root [s, t] = Tree.node (Tree.leaf s) (Tree.leaf t) := by
  rw [Tree.root_more [s, t] (by simp), show [s, t].length = 2 from rfl, half2]
  simp [root1]
theorem root3 (s t u : ByteArray) : Tree.root [s, t, u] = Tree.node (Tree.node (Tree.leaf s) (Tree.leaf t)) (Tree.leaf u) := by
  rw [Tree.root_more [s, t, u] (by simp), show [s, t, u].length = 3 from rfl, half3]
  simp [root1, root2]
theorem path32 (s t u : ByteArray) : Tree.path [s, t, u] 2 = [Tree.node (Tree.leaf s) (Tree.leaf t)] := by
  rw [Tree.path_right [s, t, u] 2 (by simp) (by rw [show [s, t, u].length = 3 from rfl, half3]; omega), show [s, t, u].length = 3 from rfl, half3]
  simp [Tree.path_short, root2]
theorem path30 (s t u : ByteArray) : Tree.path [s, t, u] 0 = [Tree.leaf t, Tree.leaf u] := by
  rw [Tree.path_left [s, t, u] 0 (by simp) (by rw [show [s, t, u].length = 3 from rfl, half3]; omega), show [s, t, u].length = 3 from rfl, half3]
  show Tree.path [s, t] 0 ++ [Tree.root [u]] = _
  rw [Tree.path_left [s, t] 0 (by simp) (by rw [show [s, t].length = 2 from rfl, half2]; omega), show [s, t].length = 2 from rfl, half2]
  simp [Tree.path_short, root1]
theorem grow32 (s t u : ByteArray) : Tree.grow [s, t, u] 2 true = [Tree.leaf u] := by
  rw [Tree.grow_left [s, t, u] 2 true (by simp) (by simp) (by rw [show [s, t, u].length = 3 from rfl, half3]; omega), show [s, t, u].length = 3 from rfl, half3]
  show Tree.grow [s, t] 2 true ++ [Tree.root [u]] = _
  have := Tree.grow_all [s, t] true
  rw [show [s, t].length = 2 from rfl] at this
  rw [this]; simp [root1]
theorem grow31 (s t u : ByteArray) : Tree.grow [s, t, u] 1 true = [Tree.leaf t, Tree.leaf u] := by
  rw [Tree.grow_left [s, t, u] 1 true (by simp) (by simp) (by rw [show [s, t, u].length = 3 from rfl, half3]; omega), show [s, t, u].length = 3 from rfl, half3]
  show Tree.grow [s, t] 1 true ++ [Tree.root [u]] = _
  rw [Tree.grow_left [s, t] 1 true (by simp) (by simp) (by rw [show [s, t].length = 2 from rfl, half2]; omega), show [s, t].length = 2 from rfl, half2]
  show (Tree.grow [s] 1 true ++ [Tree.root [t]]) ++ [Tree.root [u]] = _
  have := Tree.grow_all [s] true
  rw [show [s].length = 1 from rfl] at this
  rw [this]; simp [root1]
theorem grow43 (s t u v : ByteArray) : Tree.grow [s, t, u, v] 3 true = [Tree.leaf u, Tree.leaf v, Tree.node (Tree.leaf s) (Tree.leaf t)] := by
  rw [Tree.grow_right [s, t, u, v] 3 true (by simp) (by simp) (by rw [show [s, t, u, v].length = 4 from rfl, half4]; omega), show [s, t, u, v].length = 4 from rfl, half4]
  show Tree.grow [u, v] 1 false ++ [Tree.root [s, t]] = _
  rw [Tree.grow_left [u, v] 1 false (by simp) (by simp) (by rw [show [u, v].length = 2 from rfl, half2]; omega), show [u, v].length = 2 from rfl, half2]
  show (Tree.grow [u] 1 false ++ [Tree.root [v]]) ++ [Tree.root [s, t]] = _
  have := Tree.grow_all [u] false
  rw [show [u].length = 1 from rfl] at this
  rw [this]; simp [root1, root2]
theorem leafA : (Tree.leaf ⟨#[97]⟩ == List.replicate 32 0) = false := by decide +kernel
end Go.Proofs.YtkjdfjpfghpofaaDoor
