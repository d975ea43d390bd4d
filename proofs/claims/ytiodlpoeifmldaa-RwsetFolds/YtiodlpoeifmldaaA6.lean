/- A set with a key's dots put, by the program (layer 8). -/
import Derived.Test.YtiodlpoeifmldaaA5
namespace Go.Proofs.Ytiodlpoeifmldaa
open Go.RowKit Go.Lib
set_option linter.unusedVariables false
theorem DC.nil (w : World) : DC w (none, 0, 0) [] := ⟨DS.nil _ _, Nat.le_refl _, by decide, fun _ => rfl⟩
theorem ON.blk {N : Nat} {w : World} {V : Value} {es : List En} (h : ON N w V es) : ∀ g, V.ownBlock = some g → g < w.heap.size := by
  intro g hg
  obtain ⟨xs, ⟨_, h1⟩, _⟩ := h
  rcases h1 with ⟨rfl, _⟩ | ⟨g', cap, cur, rfl, _, h3, _⟩
  · simp [Value.ownBlock] at hg
  · simp only [Value.ownBlock, Option.some.injEq] at hg
    subst hg
    exact (Array.getElem?_eq_some_iff.1 h3).1
end Go.Proofs.Ytiodlpoeifmldaa
