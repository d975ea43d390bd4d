/-
  No cell of these rows narrows 'for every input' (looked for: loops, veiled, ifaces, maps, wideKeys, modest, calm, conditions, laid).
  DERIVED. THE GIVEN ROWS OF THIS SEAT. 4 by the template 'for every input the law returns true; each argument reads behind the call as it read before'; 0 by the template 'total and deterministic' (their statements: YtohkopjacpendaaTotals.lean).
  GIVEN WITH THE SEED: the statements are not yours to turn. If you find one false, say at which input.
  Laid BY PROGRAM, IN A SANDBOX (cutbox-rows.mjs): the forced cells as the released guide's own fill.sh prints them over the translation e7fbda293b6e88fe… (all of the seat's roots in one cut). By AI agents, Wed Nov 11 2026. No macro, syntax, notation, axiom, sorry.
-/
import Derived.Test.YtohkopjacpendaaChecked
import GoSem.Claim
import GoSem.ClaimJoined
import GoSem.ClaimMapViews
import Derived.JoinedTies
import Derived.KernelRfl
namespace Go.Proofs.Ytohkopjacpendaa
/- THE CELL 'sum', in the pinned program and in every row, IS THE sha256 OF THE DUMP (.gsa) THAT YtohkopjacpendaaProg.lean LOADS. Nothing in Lean hashes anything: it is a label: what it is worth is what the hold of that sum in a sandbox is worth. -/
noncomputable def Try.pinned : Pinned := { name := "ytohkopjacpendaa", sum := "e7fbda293b6e88fe931826e803c0aaadfc032404e85c3f502fe78f1609e16613", checked := Try.checked }
namespace Rows
def none {H : Type} : Left H := { results := [], args := [] }

/-- 'hucksterlaw12.RegisterSets': WHATEVER THE INPUT: true; the input reads as it did. -/
def registerSetsSpec : ChangeSpec := { name := "registerSets", fn := fun _ => fun
  | [d1, d2, d3] => { results := [.lit (.bool true)], args := [d1, d2, d3] }
  | _ => none }
def registerSetsRow : OpenClaim := { program := "ytohkopjacpendaa", sum := "e7fbda293b6e88fe931826e803c0aaadfc032404e85c3f502fe78f1609e16613", func := "huckster/hucksterlaw12.RegisterSets", spec := "registerSets", inPlace := ["internal/bytealg.abigen_runtime_cmpstring"], unfollowed := true, recurses := true, apart := false }
def RegisterSetsSaid : Prop := registerSetsRow.holds Try.pinned (OpenSpec.ofChange registerSetsSpec)

/-- ITS FALSE NEIGHBOUR: 'it returns false'. Refute it at one input. -/
def registerSetsWrong : ChangeSpec := { name := "registerSets", fn := fun _ => fun
  | [d1, d2, d3] => { results := [.lit (.bool false)], args := [d1, d2, d3] }
  | _ => none }
def RegisterSetsWrongFalsely : Prop := registerSetsRow.holds Try.pinned (OpenSpec.ofChange registerSetsWrong)

/-- 'hucksterlaw12.RegisterJoins': WHATEVER THE INPUT: true; the input reads as it did. -/
def registerJoinsSpec : ChangeSpec := { name := "registerJoins", fn := fun _ => fun
  | [d1, d2, d3] => { results := [.lit (.bool true)], args := [d1, d2, d3] }
  | _ => none }
def registerJoinsRow : OpenClaim := { program := "ytohkopjacpendaa", sum := "e7fbda293b6e88fe931826e803c0aaadfc032404e85c3f502fe78f1609e16613", func := "huckster/hucksterlaw12.RegisterJoins", spec := "registerJoins", inPlace := ["internal/bytealg.abigen_runtime_cmpstring"], unfollowed := true, recurses := true, apart := false }
def RegisterJoinsSaid : Prop := registerJoinsRow.holds Try.pinned (OpenSpec.ofChange registerJoinsSpec)

/-- ITS FALSE NEIGHBOUR: 'it returns false'. Refute it at one input. -/
def registerJoinsWrong : ChangeSpec := { name := "registerJoins", fn := fun _ => fun
  | [d1, d2, d3] => { results := [.lit (.bool false)], args := [d1, d2, d3] }
  | _ => none }
def RegisterJoinsWrongFalsely : Prop := registerJoinsRow.holds Try.pinned (OpenSpec.ofChange registerJoinsWrong)

/-- 'hucksterlaw12.RegisterOrders': WHATEVER THE INPUT: true; the input reads as it did. -/
def registerOrdersSpec : ChangeSpec := { name := "registerOrders", fn := fun _ => fun
  | [d1, d2] => { results := [.lit (.bool true)], args := [d1, d2] }
  | _ => none }
def registerOrdersRow : OpenClaim := { program := "ytohkopjacpendaa", sum := "e7fbda293b6e88fe931826e803c0aaadfc032404e85c3f502fe78f1609e16613", func := "huckster/hucksterlaw12.RegisterOrders", spec := "registerOrders", inPlace := ["internal/bytealg.abigen_runtime_cmpstring"], unfollowed := true, recurses := true, apart := false }
def RegisterOrdersSaid : Prop := registerOrdersRow.holds Try.pinned (OpenSpec.ofChange registerOrdersSpec)

/-- ITS FALSE NEIGHBOUR: 'it returns false'. Refute it at one input. -/
def registerOrdersWrong : ChangeSpec := { name := "registerOrders", fn := fun _ => fun
  | [d1, d2] => { results := [.lit (.bool false)], args := [d1, d2] }
  | _ => none }
def RegisterOrdersWrongFalsely : Prop := registerOrdersRow.holds Try.pinned (OpenSpec.ofChange registerOrdersWrong)

/-- 'hucksterlaw12.RegisterLast': WHATEVER THE INPUT: true; the input reads as it did. -/
def registerLastSpec : ChangeSpec := { name := "registerLast", fn := fun _ => fun
  | [d1, d2] => { results := [.lit (.bool true)], args := [d1, d2] }
  | _ => none }
def registerLastRow : OpenClaim := { program := "ytohkopjacpendaa", sum := "e7fbda293b6e88fe931826e803c0aaadfc032404e85c3f502fe78f1609e16613", func := "huckster/hucksterlaw12.RegisterLast", spec := "registerLast", inPlace := ["internal/bytealg.abigen_runtime_cmpstring"], unfollowed := true, recurses := true, apart := false }
def RegisterLastSaid : Prop := registerLastRow.holds Try.pinned (OpenSpec.ofChange registerLastSpec)

/-- ITS FALSE NEIGHBOUR: 'it returns false'. Refute it at one input. -/
def registerLastWrong : ChangeSpec := { name := "registerLast", fn := fun _ => fun
  | [d1, d2] => { results := [.lit (.bool false)], args := [d1, d2] }
  | _ => none }
def RegisterLastWrongFalsely : Prop := registerLastRow.holds Try.pinned (OpenSpec.ofChange registerLastWrong)

/- THE SECOND FORM. 'bulk': how many values and letters a reading holds, each counted each time it is reached (what is shared counts as often as it is met; a slice's spare places count too). A statement '..UptoSaid' is the law's where the arguments, and the package variables that the reading takes, are together of bulk at most 1048576: NARROWER than '..Said'. Prove '..Said' where nothing that the law and all that it calls make is longer than what came in: it says more and counts as full. Else prove '..UptoSaid'. A law counts once. -/
mutual
def uptoBulk {H : Type} : DataW H → Nat
  | .lit (.string bytes) => bytes.length + 1
  | .lit _ => 1
  | .nil => 1
  | .ptr d => uptoBulk d + 1
  | .slice elems spare => uptoBulkAll elems + uptoBulkAll spare + 1
  | .agg parts => uptoBulkAll parts + 1
  | .iface _ d => uptoBulk d + 1
  | .map entries => uptoBulkEntries entries + 1
  | .held _ => 1
def uptoBulkAll {H : Type} : List (DataW H) → Nat
  | [] => 0
  | d :: r => uptoBulk d + uptoBulkAll r
def uptoBulkEntries {H : Type} : List (Lit × DataW H) → Nat
  | [] => 0
  | x :: r => uptoBulkEntry x + uptoBulkEntries r
def uptoBulkEntry {H : Type} : Lit × DataW H → Nat
  | (.string bytes, d) => bytes.length + uptoBulk d + 1
  | (_, d) => uptoBulk d + 1
 end
def uptoSmall : (H : Type) → List (DataW H) → Bool := fun _ ds => decide (uptoBulkAll ds ≤ 1048576)
def OpenSpec.upto (s : _root_.Go.ChangeSpec) : _root_.Go.OpenSpec := { _root_.Go.OpenSpec.ofChange s with cond := some uptoSmall }

/-- 'hucksterlaw12.RegisterSets', WHERE WHAT IT READS IS OF BULK AT MOST 1048576: true; the input reads as it did. -/
def registerSetsUptoRow : OpenClaim := { program := "ytohkopjacpendaa", sum := "e7fbda293b6e88fe931826e803c0aaadfc032404e85c3f502fe78f1609e16613", func := "huckster/hucksterlaw12.RegisterSets", spec := "registerSets", inPlace := ["internal/bytealg.abigen_runtime_cmpstring"], unfollowed := true, recurses := true, apart := false, narrowed := true }
def RegisterSetsUptoSaid : Prop := registerSetsUptoRow.holds Try.pinned (OpenSpec.upto registerSetsSpec)

/-- 'hucksterlaw12.RegisterJoins', WHERE WHAT IT READS IS OF BULK AT MOST 1048576: true; the input reads as it did. -/
def registerJoinsUptoRow : OpenClaim := { program := "ytohkopjacpendaa", sum := "e7fbda293b6e88fe931826e803c0aaadfc032404e85c3f502fe78f1609e16613", func := "huckster/hucksterlaw12.RegisterJoins", spec := "registerJoins", inPlace := ["internal/bytealg.abigen_runtime_cmpstring"], unfollowed := true, recurses := true, apart := false, narrowed := true }
def RegisterJoinsUptoSaid : Prop := registerJoinsUptoRow.holds Try.pinned (OpenSpec.upto registerJoinsSpec)

/-- 'hucksterlaw12.RegisterOrders', WHERE WHAT IT READS IS OF BULK AT MOST 1048576: true; the input reads as it did. -/
def registerOrdersUptoRow : OpenClaim := { program := "ytohkopjacpendaa", sum := "e7fbda293b6e88fe931826e803c0aaadfc032404e85c3f502fe78f1609e16613", func := "huckster/hucksterlaw12.RegisterOrders", spec := "registerOrders", inPlace := ["internal/bytealg.abigen_runtime_cmpstring"], unfollowed := true, recurses := true, apart := false, narrowed := true }
def RegisterOrdersUptoSaid : Prop := registerOrdersUptoRow.holds Try.pinned (OpenSpec.upto registerOrdersSpec)

/-- 'hucksterlaw12.RegisterLast', WHERE WHAT IT READS IS OF BULK AT MOST 1048576: true; the input reads as it did. -/
def registerLastUptoRow : OpenClaim := { program := "ytohkopjacpendaa", sum := "e7fbda293b6e88fe931826e803c0aaadfc032404e85c3f502fe78f1609e16613", func := "huckster/hucksterlaw12.RegisterLast", spec := "registerLast", inPlace := ["internal/bytealg.abigen_runtime_cmpstring"], unfollowed := true, recurses := true, apart := false, narrowed := true }
def RegisterLastUptoSaid : Prop := registerLastUptoRow.holds Try.pinned (OpenSpec.upto registerLastSpec)

end Rows
end Go.Proofs.Ytohkopjacpendaa
