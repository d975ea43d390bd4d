/-
  No cell of these rows narrows 'for every input' (looked for: loops, veiled, ifaces, maps, wideKeys, modest, calm, conditions, laid).
  DERIVED. THE GIVEN ROWS OF THIS SEAT. 4 by the template 'for every input the law returns true; each argument reads behind the call as it read before'; 0 by the template 'total and deterministic' (their statements: YtccpbkemiilgcaaTotals.lean).
  GIVEN WITH THE SEED: the statements are not yours to turn. If you find one false, say at which input.
  Laid BY PROGRAM, IN A SANDBOX (cutbox-rows.mjs): the forced cells as the released guide's own fill.sh prints them over the translation e70bbb2b754d82bc… (all of the seat's roots in one cut). By AI agents, Wed Nov 11 2026. No macro, syntax, notation, axiom, sorry.
-/
import Derived.Test.YtccpbkemiilgcaaChecked
import GoSem.Claim
import GoSem.ClaimJoined
import GoSem.ClaimMapViews
import Derived.JoinedTies
import Derived.KernelRfl
namespace Go.Proofs.Ytccpbkemiilgcaa
/- THE CELL 'sum', in the pinned program and in every row, IS THE sha256 OF THE DUMP (.gsa) THAT YtccpbkemiilgcaaProg.lean LOADS. Nothing in Lean hashes anything: it is a label: what it is worth is what the hold of that sum in a sandbox is worth. -/
noncomputable def Try.pinned : Pinned := { name := "ytccpbkemiilgcaa", sum := "e70bbb2b754d82bcdaa59656b7e47bad0fa37aaf0560b1421d99a7145971c579", checked := Try.checked }
namespace Rows
def none {H : Type} : Left H := { results := [], args := [] }

/-- 'hucksterlaw04.DotsAdd': WHATEVER THE INPUT: true; the input reads as it did. -/
def dotsAddSpec : ChangeSpec := { name := "dotsAdd", fn := fun _ => fun
  | [d1, d2, d3] => { results := [.lit (.bool true)], args := [d1, d2, d3] }
  | _ => none }
def dotsAddRow : OpenClaim := { program := "ytccpbkemiilgcaa", sum := "e70bbb2b754d82bcdaa59656b7e47bad0fa37aaf0560b1421d99a7145971c579", func := "huckster/hucksterlaw04.DotsAdd", spec := "dotsAdd", unfollowed := true, recurses := true, apart := false }
def DotsAddSaid : Prop := dotsAddRow.holds Try.pinned (OpenSpec.ofChange dotsAddSpec)

/-- ITS FALSE NEIGHBOUR: 'it returns false'. Refute it at one input. -/
def dotsAddWrong : ChangeSpec := { name := "dotsAdd", fn := fun _ => fun
  | [d1, d2, d3] => { results := [.lit (.bool false)], args := [d1, d2, d3] }
  | _ => none }
def DotsAddWrongFalsely : Prop := dotsAddRow.holds Try.pinned (OpenSpec.ofChange dotsAddWrong)

/-- 'hucksterlaw04.DotsJoin': WHATEVER THE INPUT: true; the input reads as it did. -/
def dotsJoinSpec : ChangeSpec := { name := "dotsJoin", fn := fun _ => fun
  | [d1, d2] => { results := [.lit (.bool true)], args := [d1, d2] }
  | _ => none }
def dotsJoinRow : OpenClaim := { program := "ytccpbkemiilgcaa", sum := "e70bbb2b754d82bcdaa59656b7e47bad0fa37aaf0560b1421d99a7145971c579", func := "huckster/hucksterlaw04.DotsJoin", spec := "dotsJoin", unfollowed := true, recurses := true, apart := false }
def DotsJoinSaid : Prop := dotsJoinRow.holds Try.pinned (OpenSpec.ofChange dotsJoinSpec)

/-- ITS FALSE NEIGHBOUR: 'it returns false'. Refute it at one input. -/
def dotsJoinWrong : ChangeSpec := { name := "dotsJoin", fn := fun _ => fun
  | [d1, d2] => { results := [.lit (.bool false)], args := [d1, d2] }
  | _ => none }
def DotsJoinWrongFalsely : Prop := dotsJoinRow.holds Try.pinned (OpenSpec.ofChange dotsJoinWrong)

/-- 'hucksterlaw04.DotsOne': WHATEVER THE INPUT: true; the input reads as it did. -/
def dotsOneSpec : ChangeSpec := { name := "dotsOne", fn := fun _ => fun
  | [d1, d2, d3] => { results := [.lit (.bool true)], args := [d1, d2, d3] }
  | _ => none }
def dotsOneRow : OpenClaim := { program := "ytccpbkemiilgcaa", sum := "e70bbb2b754d82bcdaa59656b7e47bad0fa37aaf0560b1421d99a7145971c579", func := "huckster/hucksterlaw04.DotsOne", spec := "dotsOne", unfollowed := true, recurses := true, apart := false }
def DotsOneSaid : Prop := dotsOneRow.holds Try.pinned (OpenSpec.ofChange dotsOneSpec)

/-- ITS FALSE NEIGHBOUR: 'it returns false'. Refute it at one input. -/
def dotsOneWrong : ChangeSpec := { name := "dotsOne", fn := fun _ => fun
  | [d1, d2, d3] => { results := [.lit (.bool false)], args := [d1, d2, d3] }
  | _ => none }
def DotsOneWrongFalsely : Prop := dotsOneRow.holds Try.pinned (OpenSpec.ofChange dotsOneWrong)

/-- 'hucksterlaw04.DotsLess': WHATEVER THE INPUT: true; the input reads as it did. -/
def dotsLessSpec : ChangeSpec := { name := "dotsLess", fn := fun _ => fun
  | [d1, d2, d3] => { results := [.lit (.bool true)], args := [d1, d2, d3] }
  | _ => none }
def dotsLessRow : OpenClaim := { program := "ytccpbkemiilgcaa", sum := "e70bbb2b754d82bcdaa59656b7e47bad0fa37aaf0560b1421d99a7145971c579", func := "huckster/hucksterlaw04.DotsLess", spec := "dotsLess", unfollowed := true, recurses := true, apart := false }
def DotsLessSaid : Prop := dotsLessRow.holds Try.pinned (OpenSpec.ofChange dotsLessSpec)

/-- ITS FALSE NEIGHBOUR: 'it returns false'. Refute it at one input. -/
def dotsLessWrong : ChangeSpec := { name := "dotsLess", fn := fun _ => fun
  | [d1, d2, d3] => { results := [.lit (.bool false)], args := [d1, d2, d3] }
  | _ => none }
def DotsLessWrongFalsely : Prop := dotsLessRow.holds Try.pinned (OpenSpec.ofChange dotsLessWrong)

/- THE SECOND FORM. 'bulk': how many values and letters a reading holds, each counted each time it is reached (what is shared counts as often as it is met; a slice's spare places count too). A statement '..UptoSaid' is the law's where the arguments, and the package variables that the reading takes, are together of bulk at most 1048576: NARROWER than '..Said'. Prove '..Said' where nothing that the law and all that it calls make is longer than what came in: it says more and counts as full. Else prove '..UptoSaid'. A law counts once. -/
mutual
def uptoBulk {H : Type} : DataW H → Nat
  | .lit (.string bytes) => bytes.length + 1
  | .lit _ => 1
  | .nil => 1
  | .ptr d => uptoBulk d + 1
  | .slice elems spare => uptoBulkAll elems + uptoBulkAll spare + 1
  | .agg parts => uptoBulkAll parts + 1
  | .iface _ d => uptoBulk d + 1
  | .map entries => uptoBulkEntries entries + 1
  | .held _ => 1
def uptoBulkAll {H : Type} : List (DataW H) → Nat
  | [] => 0
  | d :: r => uptoBulk d + uptoBulkAll r
def uptoBulkEntries {H : Type} : List (Lit × DataW H) → Nat
  | [] => 0
  | x :: r => uptoBulkEntry x + uptoBulkEntries r
def uptoBulkEntry {H : Type} : Lit × DataW H → Nat
  | (.string bytes, d) => bytes.length + uptoBulk d + 1
  | (_, d) => uptoBulk d + 1
 end
def uptoSmall : (H : Type) → List (DataW H) → Bool := fun _ ds => decide (uptoBulkAll ds ≤ 1048576)
def OpenSpec.upto (s : _root_.Go.ChangeSpec) : _root_.Go.OpenSpec := { _root_.Go.OpenSpec.ofChange s with cond := some uptoSmall }

/-- 'hucksterlaw04.DotsAdd', WHERE WHAT IT READS IS OF BULK AT MOST 1048576: true; the input reads as it did. -/
def dotsAddUptoRow : OpenClaim := { program := "ytccpbkemiilgcaa", sum := "e70bbb2b754d82bcdaa59656b7e47bad0fa37aaf0560b1421d99a7145971c579", func := "huckster/hucksterlaw04.DotsAdd", spec := "dotsAdd", unfollowed := true, recurses := true, apart := false, narrowed := true }
def DotsAddUptoSaid : Prop := dotsAddUptoRow.holds Try.pinned (OpenSpec.upto dotsAddSpec)

/-- 'hucksterlaw04.DotsJoin', WHERE WHAT IT READS IS OF BULK AT MOST 1048576: true; the input reads as it did. -/
def dotsJoinUptoRow : OpenClaim := { program := "ytccpbkemiilgcaa", sum := "e70bbb2b754d82bcdaa59656b7e47bad0fa37aaf0560b1421d99a7145971c579", func := "huckster/hucksterlaw04.DotsJoin", spec := "dotsJoin", unfollowed := true, recurses := true, apart := false, narrowed := true }
def DotsJoinUptoSaid : Prop := dotsJoinUptoRow.holds Try.pinned (OpenSpec.upto dotsJoinSpec)

/-- 'hucksterlaw04.DotsOne', WHERE WHAT IT READS IS OF BULK AT MOST 1048576: true; the input reads as it did. -/
def dotsOneUptoRow : OpenClaim := { program := "ytccpbkemiilgcaa", sum := "e70bbb2b754d82bcdaa59656b7e47bad0fa37aaf0560b1421d99a7145971c579", func := "huckster/hucksterlaw04.DotsOne", spec := "dotsOne", unfollowed := true, recurses := true, apart := false, narrowed := true }
def DotsOneUptoSaid : Prop := dotsOneUptoRow.holds Try.pinned (OpenSpec.upto dotsOneSpec)

/-- 'hucksterlaw04.DotsLess', WHERE WHAT IT READS IS OF BULK AT MOST 1048576: true; the input reads as it did. -/
def dotsLessUptoRow : OpenClaim := { program := "ytccpbkemiilgcaa", sum := "e70bbb2b754d82bcdaa59656b7e47bad0fa37aaf0560b1421d99a7145971c579", func := "huckster/hucksterlaw04.DotsLess", spec := "dotsLess", unfollowed := true, recurses := true, apart := false, narrowed := true }
def DotsLessUptoSaid : Prop := dotsLessUptoRow.holds Try.pinned (OpenSpec.upto dotsLessSpec)

end Rows
end Go.Proofs.Ytccpbkemiilgcaa
