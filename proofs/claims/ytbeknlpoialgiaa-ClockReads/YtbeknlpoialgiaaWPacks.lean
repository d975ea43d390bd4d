/- What the document's 'Packs' does: are lists of texts the same? -/
import Derived.Test.YtbeknlpoialgiaaWPack
namespace Go.Proofs.Ytbeknlpoialgiaa
open Go.RowKit
set_option linter.unusedVariables false

theorem take_eqP {l m : List (List Int)} (k : Nat) (hl : k < l.length) (hm : k < m.length) (h : l.take k = m.take k) (he : l.getD k [] = m.getD k []) : l.take (k + 1) = m.take (k + 1) := by
  rw [List.take_succ_eq_append_getElem hl, List.take_succ_eq_append_getElem hm, h]
  simp [List.getD_eq_getElem?_getD, hl, hm] at he
  rw [he]

end Go.Proofs.Ytbeknlpoialgiaa
