/- Rows of the call's own beside each other. -/
import Derived.Test.YtadmibfnjhockaaDoorGBase
namespace Go.Proofs.YtadmibfnjhockaaDoor
open Go.RowKit Go.Lib
set_option linter.unusedVariables false
section
variable {α β : Type} {enc : α → List Value} {enc' : β → List Value} {k k' : Nat} {T T' : TypeId}
theorem OwnR.grown {N : Nat} {w w' : World} {r : Option Nat} {v : Value} {l : List α} (h : OwnR enc k T N w v l) (hg : w.grownBy w' r) (hr : ∀ g, v.ownBlock = some g → r ≠ some g) : OwnR enc k T N w' v l := by
  refine ⟨h.1, ?_⟩
  rcases h.2 with hn | ⟨g, cap, cur, rfl, hb', hgg, rest⟩
  · exact .inl hn
  · refine .inr ⟨g, cap, cur, rfl, hb', ?_, rest⟩
    rw [hg.block g (Array.getElem?_eq_some_iff.1 hgg).1 (fun e => hr g (by simp [Value.ownBlock]) e.symm)]
    exact hgg
theorem OwnR.apart {N N' : Nat} {w : World} {v v' : Value} {l : List α} {l' : List β} (h : OwnR enc k T N w v l) (h' : OwnR enc' k' T' N' w v' l') (hne : T ≠ T') : ∀ g, v.ownBlock = some g → v'.ownBlock ≠ some g := by
  intro g e e'
  rcases h.2 with ⟨rfl, _⟩ | ⟨g1, cap, cur, rfl, _, hg, _⟩
  · simp [Value.ownBlock] at e
  · rcases h'.2 with ⟨rfl, _⟩ | ⟨g2, cap2, cur2, rfl, _, hg2, _⟩
    · simp [Value.ownBlock] at e'
    · simp [Value.ownBlock] at e e'
      subst e
      subst e'
      rw [hg] at hg2
      simp at hg2
      exact hne hg2.2
theorem OwnR.old {N : Nat} {w : World} {v : Value} {l : List α} (h : OwnR enc k T N w v l) {g : Nat} (hg : w.heap.size ≤ g) : v.ownBlock ≠ some g := by
  rcases h.2 with ⟨rfl, _⟩ | ⟨g1, cap, cur, rfl, _, hgg, _⟩
  · intro hh; simp [Value.ownBlock] at hh
  · intro hh
    simp [Value.ownBlock] at hh
    have := (Array.getElem?_eq_some_iff.1 hgg).1
    omega
end
end Go.Proofs.YtadmibfnjhockaaDoor
