/- What is said of memory and of numbers, gathered (CMath). -/
import Derived.Test.YtiodlpoeifmldaaGBase
import Derived.Test.YtiodlpoeifmldaaAB2
import Derived.Test.YtiodlpoeifmldaaAB3
namespace Go.Proofs.Ytiodlpoeifmldaa
theorem pln_getD (l : List Int) (i : Nat) : (pln l).getD i 0 = l.getD i 0 := by
  conv => rhs; rw [← pln_pad l]
  simp only [List.getD_eq_getElem?_getD]
  by_cases h : i < (pln l).length
  · rw [List.getElem?_append_left h]
  · rw [List.getElem?_eq_none (by omega), List.getElem?_append_right (by omega)]
    simp only [List.getElem?_replicate]
    split <;> rfl
theorem mayC_pln (x : List Int) (hx : x.length ≤ 5) (hb : ∀ a ∈ x, 0 ≤ a ∧ a ≤ 1048576) : mayC (pln x) = true := by
  rw [mayC_iff]
  refine ⟨by rw [pln_length]; have := plen_le x; omega, fun a ha => hb a (List.mem_of_mem_take ha)⟩
theorem at5_pln (x : List Int) (hx : x.length = 5) (hb : ∀ a ∈ x, 0 ≤ a ∧ a ≤ 1048576) (k : Nat) : at5 (pln x) k = x.getD k 0 := by
  unfold at5
  rw [if_pos (mayC_pln x (by omega) hb), pln_getD]
end Go.Proofs.Ytiodlpoeifmldaa

