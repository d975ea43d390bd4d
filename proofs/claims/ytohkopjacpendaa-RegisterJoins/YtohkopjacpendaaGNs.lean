/- A register in which another one's notes are set, in plain mathematics. -/
import Derived.Test.YtohkopjacpendaaGNm
namespace Go.Proofs.Ytohkopjacpendaa
set_option linter.unusedVariables false
/-- Behind the first k notes of t. -/
def JW (s t W : List Nt) (k : Nat) : Prop := W = (t.take k).foldl setN s ∧ mayR12 W = true ∧ W.length ≤ s.length + k
theorem JW.nil {s : List Nt} (t : List Nt) (h : mayR12 s = true) : JW s t s 0 := ⟨by simp, h, by omega⟩
theorem JW.step {s t W : List Nt} {k : Nat} (h : JW s t W k) {x : Nt} (hx : t[k]? = some x) (hm : mayNt x = true) (hl : s.length + k < 4000) : JW s t (setN W x) (k + 1) := by
  obtain ⟨h1, h2, h3⟩ := h
  refine ⟨by rw [takeG_snoc hx, List.foldl_append, ← h1]; rfl, setN_may h2 hm (by omega), by have := setN_len W x; omega⟩
theorem JW.end {s t W : List Nt} {m : Nat} (h : JW s t W m) (hm : t.length = m) (hs : mayR12 s = true) (ht : mayR12 t = true) : mrgN s t = W ∧ mrgN t s = W := by
  have h1 := h.1
  rw [← hm, List.take_length] at h1
  have qs := (mayG_iff.1 hs).2.1
  have qt := (mayG_iff.1 ht).2.1
  exact ⟨by rw [h1]; exact mrgN_sets qs qt, by rw [h1]; exact mrgN_turn qs qt⟩
end Go.Proofs.Ytohkopjacpendaa
