/-
  DERIVED. GIVEN WITH THE SEED: THE CARDS: each row of YtplneoapcadlnaaDoorRows.lean that lists a variable, with what it lists TIED to the program's text (the seventh form; the later family's looks); each row that meets fmt, with fmt's text TOLD by the authors' own Lean function (tested against real Go, not proved from fmt's source: count such statements apart). THE CARD IS WHAT COUNTS. Prove the row's statement (the work); the ties are given (YtplneoapcadlnaaDoorTie.lean); close each card by the builder's one call (the guide's Derived/Test/ToyasCard.lean, 'card_holds'). Laid BY PROGRAM, IN A SANDBOX (cutbox-door.mjs). By AI agents, Wed Nov 11 2026. No macro, syntax, notation, axiom, sorry.
-/
import Derived.Test.YtplneoapcadlnaaDoorRows
import GoSem.ClaimSeven
namespace Go.Proofs.YtplneoapcadlnaaDoor
namespace Rows

/-- THE TIED CARD OF 'socagelaw07.CellsPlays'. -/
def cellsPlaysCard : Claim7 := { stood := { row := cellsPlaysRow, standIns := [], harness := (true, "a0663e08bfa8fb38c83e6a11aa40850cc5a78767d3ab2969a591841dc11e1e5e"), looks := true }, kinds := [], alts := [], laidByText := true, laidKinds := [.data], laidTests := true, laidLooks := .later }
def CellsPlaysCardSaid : Prop := Claim7.holds Tryd.pinned (.plain (OpenSpec.ofChange cellsPlaysSpec)) cellsPlaysCard

/-- THE TIED CARD OF 'socagelaw07.CellsFresh'. -/
def cellsFreshCard : Claim7 := { stood := { row := cellsFreshRow, standIns := [], harness := (true, "a0663e08bfa8fb38c83e6a11aa40850cc5a78767d3ab2969a591841dc11e1e5e"), looks := true }, kinds := [], alts := [], laidByText := true, laidKinds := [.data], laidTests := true, laidLooks := .later }
def CellsFreshCardSaid : Prop := Claim7.holds Tryd.pinned (.plain (OpenSpec.ofChange cellsFreshSpec)) cellsFreshCard

/-- THE SECOND FORM's CARD OF 'socagelaw07.CellsPlays'. -/
def cellsPlaysUptoCard : Claim7 := { stood := { row := cellsPlaysUptoRow, standIns := [], harness := (true, "a0663e08bfa8fb38c83e6a11aa40850cc5a78767d3ab2969a591841dc11e1e5e"), looks := true }, kinds := [], alts := [], laidByText := true, laidKinds := [.data], laidTests := true, laidLooks := .later }
def CellsPlaysUptoCardSaid : Prop := Claim7.holds Tryd.pinned (.plain (OpenSpec.upto cellsPlaysSpec)) cellsPlaysUptoCard

/-- THE SECOND FORM's CARD OF 'socagelaw07.CellsFresh'. -/
def cellsFreshUptoCard : Claim7 := { stood := { row := cellsFreshUptoRow, standIns := [], harness := (true, "a0663e08bfa8fb38c83e6a11aa40850cc5a78767d3ab2969a591841dc11e1e5e"), looks := true }, kinds := [], alts := [], laidByText := true, laidKinds := [.data], laidTests := true, laidLooks := .later }
def CellsFreshUptoCardSaid : Prop := Claim7.holds Tryd.pinned (.plain (OpenSpec.upto cellsFreshSpec)) cellsFreshUptoCard
end Rows
end Go.Proofs.YtplneoapcadlnaaDoor
