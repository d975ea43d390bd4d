/- What 'sumOf' and 'Record' do, the program's and the document's. -/
import Derived.Test.YtbeknlpoialgiaaWRefUnpack
namespace Go.Proofs.Ytbeknlpoialgiaa
open Go.RowKit
set_option linter.unusedVariables false

def rhead (k : Int) (t : List Int) : List Int := k :: text t
def record (k : Int) (t : List Int) : List Int := rhead k t ++ be 4 (of [rhead k t])
theorem be4 (x : Int) (h0 : 0 ≤ x) (h1 : x < 4294967296) : be 4 x = [x / 16777216, x / 65536 % 256, x / 256 % 256, x % 256] := by
  simp [be]
  omega
theorem rhead_by {k : Int} {t : List Int} (h0 : 0 ≤ k) (h1 : k < 256) (h : By t) : By (rhead k t) := By.cons h0 h1 (text_by h)
theorem rhead_len (k : Int) (t : List Int) : (rhead k t).length ≤ t.length + 10 := by
  have := text_len t
  unfold rhead
  rw [List.length_cons]
  omega

end Go.Proofs.Ytbeknlpoialgiaa
