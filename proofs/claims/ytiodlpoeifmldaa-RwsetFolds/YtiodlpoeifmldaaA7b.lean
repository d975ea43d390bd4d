/- What the program adds (layer 8), 2. -/
import Derived.Test.YtiodlpoeifmldaaA7
namespace Go.Proofs.Ytiodlpoeifmldaa
open Go.RowKit Go.Lib
set_option linter.unusedVariables false
end Go.Proofs.Ytiodlpoeifmldaa
