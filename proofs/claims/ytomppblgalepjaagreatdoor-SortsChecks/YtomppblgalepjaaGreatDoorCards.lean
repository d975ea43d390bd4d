/-
  DERIVED. GIVEN WITH THE SEED: THE CARDS: each row of YtomppblgalepjaaGreatDoorRows.lean that lists a variable, with what it lists TIED to the program's text (the seventh form; the later family's looks); each row that meets fmt, with fmt's text TOLD by the authors' own Lean function (tested against real Go, not proved from fmt's source: count such statements apart). THE CARD IS WHAT COUNTS. Prove the row's statement (the work); the ties are given (YtomppblgalepjaaGreatDoorTie.lean); close each card by the builder's one call (the guide's Derived/Test/ToyasCard.lean, 'card_holds'). Laid BY PROGRAM, IN A SANDBOX (cutbox-door.mjs). By AI agents, Wed Nov 11 2026. No macro, syntax, notation, axiom, sorry.
-/
import Derived.Test.YtomppblgalepjaaGreatDoorRows
import GoSem.ClaimSeven
namespace Go.Proofs.YtomppblgalepjaaGreatDoor
namespace Rows

/-- THE TIED CARD OF 'hucksterlaw16.SortsOf'. -/
def sortsOfCard : Claim7 := { stood := { row := sortsOfRow, standIns := [], harness := (true, "a129825de4b06ab78c2d5af0d00ca403a750474cb824bf755301b0ea524933b7"), looks := true }, kinds := [], alts := [], laidByText := true, laidKinds := [.data, .data, .data, .sentinel, .sentinel], laidTests := true, laidLooks := .later }
def SortsOfCardSaid : Prop := Claim7.holds Tryz.pinned (.plain (OpenSpec.ofChange sortsOfSpec)) sortsOfCard

/-- THE TIED CARD OF 'hucksterlaw16.SortsChecks'. -/
def sortsChecksCard : Claim7 := { stood := { row := sortsChecksRow, standIns := [], harness := (true, "a129825de4b06ab78c2d5af0d00ca403a750474cb824bf755301b0ea524933b7"), looks := true }, kinds := [], alts := [], laidByText := true, laidKinds := [.data, .data, .data, .sentinel, .sentinel], laidTests := true, laidLooks := .later }
def SortsChecksCardSaid : Prop := Claim7.holds Tryz.pinned (.plain (OpenSpec.ofChange sortsChecksSpec)) sortsChecksCard

/-- THE SECOND FORM's CARD OF 'hucksterlaw16.SortsOf'. -/
def sortsOfUptoCard : Claim7 := { stood := { row := sortsOfUptoRow, standIns := [], harness := (true, "a129825de4b06ab78c2d5af0d00ca403a750474cb824bf755301b0ea524933b7"), looks := true }, kinds := [], alts := [], laidByText := true, laidKinds := [.data, .data, .data, .sentinel, .sentinel], laidTests := true, laidLooks := .later }
def SortsOfUptoCardSaid : Prop := Claim7.holds Tryz.pinned (.plain (OpenSpec.upto sortsOfSpec)) sortsOfUptoCard

/-- THE SECOND FORM's CARD OF 'hucksterlaw16.SortsChecks'. -/
def sortsChecksUptoCard : Claim7 := { stood := { row := sortsChecksUptoRow, standIns := [], harness := (true, "a129825de4b06ab78c2d5af0d00ca403a750474cb824bf755301b0ea524933b7"), looks := true }, kinds := [], alts := [], laidByText := true, laidKinds := [.data, .data, .data, .sentinel, .sentinel], laidTests := true, laidLooks := .later }
def SortsChecksUptoCardSaid : Prop := Claim7.holds Tryz.pinned (.plain (OpenSpec.upto sortsChecksSpec)) sortsChecksUptoCard
end Rows
end Go.Proofs.YtomppblgalepjaaGreatDoor
