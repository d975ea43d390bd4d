/- Behind a drop that knows all adds of a key it is not there (layer 8): in plain mathematics. -/
import Derived.Test.YtiodlpoeifmldaaC1
namespace Go.Proofs.Ytiodlpoeifmldaa
set_option linter.unusedVariables false
def allC : List Int := [1048576, 1048576, 1048576, 1048576, 1048576]
theorem getZ_all {r : Int} (h1 : 1 ≤ r) (h2 : r ≤ 5) : getZ allC r = 1048576 := by
  obtain h | h | h | h | h : r = 1 ∨ r = 2 ∨ r = 3 ∨ r = 4 ∨ r = 5 := by omega
  all_goals (subst h; decide)
theorem left_all {l : List Dot} (h : rowsB l = true) : leftD l allC = [] := by
  unfold leftD
  rw [List.filter_eq_nil_iff]
  intro d hd
  have := mayD_iff.1 ((rowsB_iff.1 h).1 d hd)
  rw [getZ_all this.1 this.2.1]
  simp
  omega
theorem few_put {s : List En} {m : Nat} (h : ∀ x ∈ s, x.2.1.length ≤ m) {t : ByteArray} {l : List Dot} (hl : l.length ≤ m + 1) : ∀ x ∈ putS s t l, x.2.1.length ≤ m + 1 := by
  intro x hx
  rcases mem_put.1 hx with ⟨h1, _⟩ | ⟨_, rfl⟩
  · exact Nat.le_trans (h x h1) (by omega)
  · exact hl
theorem few_get {s : List En} {m : Nat} (h : ∀ x ∈ s, x.2.1.length ≤ m) (t : ByteArray) : (getS s t).length ≤ m := by
  rcases getS_or s t with ⟨e, _⟩ | ⟨x, hx, _, e⟩
  · rw [e]; exact Nat.zero_le _
  · rw [e]; exact h x hx
theorem few_add {s : List En} {m : Nat} (h : ∀ x ∈ s, x.2.1.length ≤ m) (t : ByteArray) (d : Dot) (c : List Int) : ∀ x ∈ addS s t d c, x.2.1.length ≤ m + 1 := by
  refine few_put h (Nat.le_trans putD_len ?_)
  have : (leftD (getS s t) c).length ≤ (getS s t).length := List.length_filter_le _ _
  have := few_get h t
  omega
theorem few_drop {s : List En} {m : Nat} (h : ∀ x ∈ s, x.2.1.length ≤ m) (t : ByteArray) (c : List Int) : ∀ x ∈ dropS s t c, x.2.1.length ≤ m + 1 := by
  refine few_put h ?_
  have : (leftD (getS s t) c).length ≤ (getS s t).length := List.length_filter_le _ _
  have := few_get h t
  omega
/-- What the theorem of drops says. -/
structure DropF (s : List En) (t : ByteArray) (A D : List En) : Prop where
  a : mayS A = true
  d : mayS D = true
  at_ : getS A t ≠ []
  dt : getS D t = []
  oth : ∀ o, o ≠ t → getS D o = getS s o
  fa : ∀ x ∈ A, x.2.1.length ≤ 100000
  la : A.length < 4000
theorem drop_facts {s : List En} (hs : mayS s = true) {t : ByteArray} (hk : mayK t = true) {d : Dot} (hd : mayD d = true) (c : List Int) (hn : s.length ≤ 30) (hf : ∀ x ∈ s, x.2.1.length ≤ 30) : DropF s t (addS s t d c) (dropS (addS s t d c) t allC) := by
  have hA := mayS_add hs hk hd c (by omega)
  have hl : (addS s t d c).length ≤ 31 := by have := put_len s t (putD (leftD (getS s t) c) d); unfold addS; omega
  have hS := (mayS_iff.1 hs).2.1
  have hSA := (mayS_iff.1 hA).2.1
  have g : getS (addS s t d c) t = putD (leftD (getS s t) c) d := by unfold addS; rw [getS_put hS, if_pos rfl]
  refine ⟨hA, mayS_drop hA hk allC (by omega), by rw [g]; exact putD_ne _ _, ?_, fun o ho => ?_, fun x hx => Nat.le_trans (few_add hf t d c x hx) (by decide), by omega⟩
  · unfold dropS
    rw [getS_put hSA, if_pos rfl]
    exact left_all (rowsB_get hA t)
  · unfold dropS
    rw [getS_put hSA, if_neg ho]
    unfold addS
    rw [getS_put hS, if_neg ho]
end Go.Proofs.Ytiodlpoeifmldaa
