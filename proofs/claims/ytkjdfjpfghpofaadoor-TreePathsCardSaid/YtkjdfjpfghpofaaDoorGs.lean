/- The chapter's examples, reckoned. -/
import Derived.Test.YtkjdfjpfghpofaaDoorGq
namespace Go.Proofs.YtkjdfjpfghpofaaDoor.Sha
open Go
set_option maxRecDepth 100000
/-- The bytes of the hash of the empty string, of "abc". -/
def none32 : List Int := [227, 176, 196, 66, 152, 252, 28, 20, 154, 251, 244, 200, 153, 111, 185, 36, 39, 174, 65, 228, 100, 155, 147, 76, 164, 149, 153, 27, 120, 82, 184, 85]
def abc32 : List Int := [186, 120, 22, 191, 143, 1, 207, 234, 65, 65, 64, 222, 93, 174, 34, 35, 176, 3, 97, 163, 150, 23, 122, 156, 180, 16, 255, 97, 242, 0, 21, 173]
theorem hash_set (l : List Int) (h : Hash l) (i : Nat) (x : Int) : Hash (l.set i (x % 256)) := by
  refine ⟨by simp [h.1], fun j => ?_⟩
  have e := h.2 j
  rw [List.getD_eq_getElem?_getD] at e ⊢
  rw [List.getElem?_set]
  by_cases hij : i = j
  · subst hij
    by_cases hl : i < l.length
    · rw [if_pos rfl, if_pos hl]
      show 0 ≤ x % 256 ∧ x % 256 < 256
      omega
    · rw [if_pos rfl, if_neg hl]
      exact ⟨by decide, by decide⟩
  · simp only [hij, if_false]; exact e
theorem hash_zero : Hash (List.replicate 32 0) := by
  refine ⟨by simp, fun j => ?_⟩
  rw [List.getD_eq_getElem?_getD, List.getElem?_replicate]
  split <;> simp
theorem hashN_hash (ws : List Int) (i : Nat) : Hash (hashN ws i) := by
  induction i with
  | zero => exact hash_zero
  | succ i ih => rw [hashN]; exact hash_set _ ih _ _
theorem sum_hash (s : ByteArray) : Hash (sum s) := hashN_hash _ 32
theorem text_size (l : List Int) : (text l).size = 64 := by rw [text, strOfNums_size, textN_length]
theorem sum_none : sum ⟨#[]⟩ = none32 := by decide +kernel
theorem sum_abc : sum ⟨#[97, 98, 99]⟩ = abc32 := by decide +kernel
theorem text_none : text none32 = ⟨#[101, 51, 98, 48, 99, 52, 52, 50, 57, 56, 102, 99, 49, 99, 49, 52, 57, 97, 102, 98, 102, 52, 99, 56, 57, 57, 54, 102, 98, 57, 50, 52, 50, 55, 97, 101, 52, 49, 101, 52, 54, 52, 57, 98, 57, 51, 52, 99, 97, 52, 57, 53, 57, 57, 49, 98, 55, 56, 53, 50, 98, 56, 53, 53]⟩ := by decide +kernel
theorem text_abc : text abc32 = ⟨#[98, 97, 55, 56, 49, 54, 98, 102, 56, 102, 48, 49, 99, 102, 101, 97, 52, 49, 52, 49, 52, 48, 100, 101, 53, 100, 97, 101, 50, 50, 50, 51, 98, 48, 48, 51, 54, 49, 97, 51, 57, 54, 49, 55, 55, 97, 57, 99, 98, 52, 49, 48, 102, 102, 54, 49, 102, 50, 48, 48, 49, 53, 97, 100]⟩ := by decide +kernel
theorem example1 : text (sum ⟨#[]⟩) = ⟨#[101, 51, 98, 48, 99, 52, 52, 50, 57, 56, 102, 99, 49, 99, 49, 52, 57, 97, 102, 98, 102, 52, 99, 56, 57, 57, 54, 102, 98, 57, 50, 52, 50, 55, 97, 101, 52, 49, 101, 52, 54, 52, 57, 98, 57, 51, 52, 99, 97, 52, 57, 53, 57, 57, 49, 98, 55, 56, 53, 50, 98, 56, 53, 53]⟩ := by rw [sum_none, text_none]
theorem example2 : text (sum ⟨#[97, 98, 99]⟩) = ⟨#[98, 97, 55, 56, 49, 54, 98, 102, 56, 102, 48, 49, 99, 102, 101, 97, 52, 49, 52, 49, 52, 48, 100, 101, 53, 100, 97, 101, 50, 50, 50, 51, 98, 48, 48, 51, 54, 49, 97, 51, 57, 54, 49, 55, 55, 97, 57, 99, 98, 52, 49, 48, 102, 102, 54, 49, 102, 50, 48, 48, 49, 53, 97, 100]⟩ := by rw [sum_abc, text_abc]
end Go.Proofs.YtkjdfjpfghpofaaDoor.Sha
