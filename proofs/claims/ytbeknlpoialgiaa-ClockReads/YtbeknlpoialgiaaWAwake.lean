/- Stage 2's own 'awake': it answers true and makes new memory only. -/
import Derived.Test.YtbeknlpoialgiaaWRec
namespace Go.Proofs.Ytbeknlpoialgiaa
open Go.RowKit
set_option linter.unusedVariables false

theorem rec3_len : (record 3 []).length = 6 := by
  unfold record
  rw [List.length_append, be_len]
  decide
theorem num258 : num 258 = [2, 1, 2] := by decide
theorem num0 : num 0 = [0] := by decide

end Go.Proofs.Ytbeknlpoialgiaa
