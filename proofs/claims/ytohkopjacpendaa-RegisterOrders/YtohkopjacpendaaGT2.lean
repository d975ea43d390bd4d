/- The document's Set and Same of layer 10. -/
import Derived.Test.YtohkopjacpendaaGT1
namespace Go.Proofs.Ytohkopjacpendaa
open Go.RowKit Go.Lib
set_option linter.unusedVariables false
theorem drop_cons {α : Type} {s : List α} {k : Nat} {x : α} (h : s[k]? = some x) : s.drop k = x :: s.drop (k + 1) := by
  obtain ⟨hk, rfl⟩ := List.getElem?_eq_some_iff.1 h
  exact List.drop_eq_getElem_cons hk
theorem goT_is {s : List Ce} (hs : SrtG kC s) (t : ByteArray) (m : Int) : goG kC t (t, m) s [] (decide (m = 0)) = setT s t m := by
  unfold setT celT
  by_cases h : m = 0
  · rw [decide_eq_true h, if_pos h, goG_none hs]
  · rw [decide_eq_false h, if_neg h, goG_some hs]
end Go.Proofs.Ytohkopjacpendaa
