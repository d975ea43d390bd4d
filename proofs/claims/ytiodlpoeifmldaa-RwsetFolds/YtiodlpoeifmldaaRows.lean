/-
  No cell of these rows narrows 'for every input' (looked for: loops, veiled, ifaces, maps, wideKeys, modest, calm, conditions, laid).
  DERIVED. THE GIVEN ROWS OF THIS SEAT. 4 by the template 'for every input the law returns true; each argument reads behind the call as it read before'; 0 by the template 'total and deterministic' (their statements: YtiodlpoeifmldaaTotals.lean).
  GIVEN WITH THE SEED: the statements are not yours to turn. If you find one false, say at which input.
  Laid BY PROGRAM, IN A SANDBOX (cutbox-rows.mjs): the forced cells as the released guide's own fill.sh prints them over the translation 8444755ba553b6eb… (all of the seat's roots in one cut). By AI agents, Wed Nov 11 2026. No macro, syntax, notation, axiom, sorry.
-/
import Derived.Test.YtiodlpoeifmldaaChecked
import GoSem.Claim
import GoSem.ClaimJoined
import GoSem.ClaimMapViews
import Derived.JoinedTies
import Derived.KernelRfl
namespace Go.Proofs.Ytiodlpoeifmldaa
/- THE CELL 'sum', in the pinned program and in every row, IS THE sha256 OF THE DUMP (.gsa) THAT YtiodlpoeifmldaaProg.lean LOADS. Nothing in Lean hashes anything: it is a label: what it is worth is what the hold of that sum in a sandbox is worth. -/
noncomputable def Try.pinned : Pinned := { name := "ytiodlpoeifmldaa", sum := "8444755ba553b6ebc4cfee3e95a28e3d3de9239311063b85ba5b9427338437a4", checked := Try.checked }
namespace Rows
def none {H : Type} : Left H := { results := [], args := [] }

/-- 'hucksterlaw09.RwsetTurns': WHATEVER THE INPUT: true; the input reads as it did. -/
def rwsetTurnsSpec : ChangeSpec := { name := "rwsetTurns", fn := fun _ => fun
  | [d1, d2] => { results := [.lit (.bool true)], args := [d1, d2] }
  | _ => none }
def rwsetTurnsRow : OpenClaim := { program := "ytiodlpoeifmldaa", sum := "8444755ba553b6ebc4cfee3e95a28e3d3de9239311063b85ba5b9427338437a4", func := "huckster/hucksterlaw09.RwsetTurns", spec := "rwsetTurns", inPlace := ["internal/bytealg.abigen_runtime_cmpstring", "slices.overlaps[huckster/api.Entry]"], unfollowed := true, recurses := true, apart := false }
def RwsetTurnsSaid : Prop := rwsetTurnsRow.holds Try.pinned (OpenSpec.ofChange rwsetTurnsSpec)

/-- ITS FALSE NEIGHBOUR: 'it returns false'. Refute it at one input. -/
def rwsetTurnsWrong : ChangeSpec := { name := "rwsetTurns", fn := fun _ => fun
  | [d1, d2] => { results := [.lit (.bool false)], args := [d1, d2] }
  | _ => none }
def RwsetTurnsWrongFalsely : Prop := rwsetTurnsRow.holds Try.pinned (OpenSpec.ofChange rwsetTurnsWrong)

/-- 'hucksterlaw09.RwsetTells': WHATEVER THE INPUT: true; the input reads as it did. -/
def rwsetTellsSpec : ChangeSpec := { name := "rwsetTells", fn := fun _ => fun
  | [d1, d2, d3] => { results := [.lit (.bool true)], args := [d1, d2, d3] }
  | _ => none }
def rwsetTellsRow : OpenClaim := { program := "ytiodlpoeifmldaa", sum := "8444755ba553b6ebc4cfee3e95a28e3d3de9239311063b85ba5b9427338437a4", func := "huckster/hucksterlaw09.RwsetTells", spec := "rwsetTells", inPlace := ["internal/bytealg.abigen_runtime_cmpstring", "slices.overlaps[huckster/api.Entry]"], unfollowed := true, recurses := true, apart := false }
def RwsetTellsSaid : Prop := rwsetTellsRow.holds Try.pinned (OpenSpec.ofChange rwsetTellsSpec)

/-- ITS FALSE NEIGHBOUR: 'it returns false'. Refute it at one input. -/
def rwsetTellsWrong : ChangeSpec := { name := "rwsetTells", fn := fun _ => fun
  | [d1, d2, d3] => { results := [.lit (.bool false)], args := [d1, d2, d3] }
  | _ => none }
def RwsetTellsWrongFalsely : Prop := rwsetTellsRow.holds Try.pinned (OpenSpec.ofChange rwsetTellsWrong)

/-- 'hucksterlaw09.RwsetFolds': WHATEVER THE INPUT: true; the input reads as it did. -/
def rwsetFoldsSpec : ChangeSpec := { name := "rwsetFolds", fn := fun _ => fun
  | [d1, d2, d3] => { results := [.lit (.bool true)], args := [d1, d2, d3] }
  | _ => none }
def rwsetFoldsRow : OpenClaim := { program := "ytiodlpoeifmldaa", sum := "8444755ba553b6ebc4cfee3e95a28e3d3de9239311063b85ba5b9427338437a4", func := "huckster/hucksterlaw09.RwsetFolds", spec := "rwsetFolds", inPlace := ["internal/bytealg.abigen_runtime_cmpstring", "slices.overlaps[huckster/api.Entry]"], unfollowed := true, recurses := true, apart := false }
def RwsetFoldsSaid : Prop := rwsetFoldsRow.holds Try.pinned (OpenSpec.ofChange rwsetFoldsSpec)

/-- ITS FALSE NEIGHBOUR: 'it returns false'. Refute it at one input. -/
def rwsetFoldsWrong : ChangeSpec := { name := "rwsetFolds", fn := fun _ => fun
  | [d1, d2, d3] => { results := [.lit (.bool false)], args := [d1, d2, d3] }
  | _ => none }
def RwsetFoldsWrongFalsely : Prop := rwsetFoldsRow.holds Try.pinned (OpenSpec.ofChange rwsetFoldsWrong)

/-- 'hucksterlaw09.RwsetDrops': WHATEVER THE INPUT: true; the input reads as it did. -/
def rwsetDropsSpec : ChangeSpec := { name := "rwsetDrops", fn := fun _ => fun
  | [d1, d2, d3] => { results := [.lit (.bool true)], args := [d1, d2, d3] }
  | _ => none }
def rwsetDropsRow : OpenClaim := { program := "ytiodlpoeifmldaa", sum := "8444755ba553b6ebc4cfee3e95a28e3d3de9239311063b85ba5b9427338437a4", func := "huckster/hucksterlaw09.RwsetDrops", spec := "rwsetDrops", inPlace := ["internal/bytealg.abigen_runtime_cmpstring", "slices.overlaps[huckster/api.Entry]"], unfollowed := true, recurses := true, apart := false }
def RwsetDropsSaid : Prop := rwsetDropsRow.holds Try.pinned (OpenSpec.ofChange rwsetDropsSpec)

/-- ITS FALSE NEIGHBOUR: 'it returns false'. Refute it at one input. -/
def rwsetDropsWrong : ChangeSpec := { name := "rwsetDrops", fn := fun _ => fun
  | [d1, d2, d3] => { results := [.lit (.bool false)], args := [d1, d2, d3] }
  | _ => none }
def RwsetDropsWrongFalsely : Prop := rwsetDropsRow.holds Try.pinned (OpenSpec.ofChange rwsetDropsWrong)

/- THE SECOND FORM. 'bulk': how many values and letters a reading holds, each counted each time it is reached (what is shared counts as often as it is met; a slice's spare places count too). A statement '..UptoSaid' is the law's where the arguments, and the package variables that the reading takes, are together of bulk at most 1048576: NARROWER than '..Said'. Prove '..Said' where nothing that the law and all that it calls make is longer than what came in: it says more and counts as full. Else prove '..UptoSaid'. A law counts once. -/
mutual
def uptoBulk {H : Type} : DataW H → Nat
  | .lit (.string bytes) => bytes.length + 1
  | .lit _ => 1
  | .nil => 1
  | .ptr d => uptoBulk d + 1
  | .slice elems spare => uptoBulkAll elems + uptoBulkAll spare + 1
  | .agg parts => uptoBulkAll parts + 1
  | .iface _ d => uptoBulk d + 1
  | .map entries => uptoBulkEntries entries + 1
  | .held _ => 1
def uptoBulkAll {H : Type} : List (DataW H) → Nat
  | [] => 0
  | d :: r => uptoBulk d + uptoBulkAll r
def uptoBulkEntries {H : Type} : List (Lit × DataW H) → Nat
  | [] => 0
  | x :: r => uptoBulkEntry x + uptoBulkEntries r
def uptoBulkEntry {H : Type} : Lit × DataW H → Nat
  | (.string bytes, d) => bytes.length + uptoBulk d + 1
  | (_, d) => uptoBulk d + 1
 end
def uptoSmall : (H : Type) → List (DataW H) → Bool := fun _ ds => decide (uptoBulkAll ds ≤ 1048576)
def OpenSpec.upto (s : _root_.Go.ChangeSpec) : _root_.Go.OpenSpec := { _root_.Go.OpenSpec.ofChange s with cond := some uptoSmall }

/-- 'hucksterlaw09.RwsetTurns', WHERE WHAT IT READS IS OF BULK AT MOST 1048576: true; the input reads as it did. -/
def rwsetTurnsUptoRow : OpenClaim := { program := "ytiodlpoeifmldaa", sum := "8444755ba553b6ebc4cfee3e95a28e3d3de9239311063b85ba5b9427338437a4", func := "huckster/hucksterlaw09.RwsetTurns", spec := "rwsetTurns", inPlace := ["internal/bytealg.abigen_runtime_cmpstring", "slices.overlaps[huckster/api.Entry]"], unfollowed := true, recurses := true, apart := false, narrowed := true }
def RwsetTurnsUptoSaid : Prop := rwsetTurnsUptoRow.holds Try.pinned (OpenSpec.upto rwsetTurnsSpec)

/-- 'hucksterlaw09.RwsetTells', WHERE WHAT IT READS IS OF BULK AT MOST 1048576: true; the input reads as it did. -/
def rwsetTellsUptoRow : OpenClaim := { program := "ytiodlpoeifmldaa", sum := "8444755ba553b6ebc4cfee3e95a28e3d3de9239311063b85ba5b9427338437a4", func := "huckster/hucksterlaw09.RwsetTells", spec := "rwsetTells", inPlace := ["internal/bytealg.abigen_runtime_cmpstring", "slices.overlaps[huckster/api.Entry]"], unfollowed := true, recurses := true, apart := false, narrowed := true }
def RwsetTellsUptoSaid : Prop := rwsetTellsUptoRow.holds Try.pinned (OpenSpec.upto rwsetTellsSpec)

/-- 'hucksterlaw09.RwsetFolds', WHERE WHAT IT READS IS OF BULK AT MOST 1048576: true; the input reads as it did. -/
def rwsetFoldsUptoRow : OpenClaim := { program := "ytiodlpoeifmldaa", sum := "8444755ba553b6ebc4cfee3e95a28e3d3de9239311063b85ba5b9427338437a4", func := "huckster/hucksterlaw09.RwsetFolds", spec := "rwsetFolds", inPlace := ["internal/bytealg.abigen_runtime_cmpstring", "slices.overlaps[huckster/api.Entry]"], unfollowed := true, recurses := true, apart := false, narrowed := true }
def RwsetFoldsUptoSaid : Prop := rwsetFoldsUptoRow.holds Try.pinned (OpenSpec.upto rwsetFoldsSpec)

/-- 'hucksterlaw09.RwsetDrops', WHERE WHAT IT READS IS OF BULK AT MOST 1048576: true; the input reads as it did. -/
def rwsetDropsUptoRow : OpenClaim := { program := "ytiodlpoeifmldaa", sum := "8444755ba553b6ebc4cfee3e95a28e3d3de9239311063b85ba5b9427338437a4", func := "huckster/hucksterlaw09.RwsetDrops", spec := "rwsetDrops", inPlace := ["internal/bytealg.abigen_runtime_cmpstring", "slices.overlaps[huckster/api.Entry]"], unfollowed := true, recurses := true, apart := false, narrowed := true }
def RwsetDropsUptoSaid : Prop := rwsetDropsUptoRow.holds Try.pinned (OpenSpec.upto rwsetDropsSpec)

end Rows
end Go.Proofs.Ytiodlpoeifmldaa
