/- What the program adds and drops (layer 8). -/
import Derived.Test.YtiodlpoeifmldaaA6
namespace Go.Proofs.Ytiodlpoeifmldaa
open Go.RowKit Go.Lib
set_option linter.unusedVariables false
end Go.Proofs.Ytiodlpoeifmldaa
