/- The document's Add, Drop, Same; the program's Same (layer 8). -/
import Derived.Test.YtiodlpoeifmldaaB3
import Derived.Test.YtiodlpoeifmldaaA8
namespace Go.Proofs.Ytiodlpoeifmldaa
open Go.RowKit Go.Lib
set_option linter.unusedVariables false
theorem fieldL (t : ByteArray) (p : Option Addr) (n c : Nat) (pd : Option Addr) (nd cd : Nat) (w : World) : (Instr.field 48 (.agg #[.string t, .slice p n c, .slice pd nd cd]) 1).run Try.prog w = .ok (.slice p n c) w := by kernel_rfl
end Go.Proofs.Ytiodlpoeifmldaa
