/-
  DERIVED. GIVEN WITH THE SEED: THE CARDS: each row of YtgopblhaapbimaaDoorRows.lean that lists a variable, with what it lists TIED to the program's text (the seventh form; the later family's looks); each row that meets fmt, with fmt's text TOLD by the authors' own Lean function (tested against real Go, not proved from fmt's source: count such statements apart). THE CARD IS WHAT COUNTS. Prove the row's statement (the work); the ties are given (YtgopblhaapbimaaDoorTie.lean); close each card by the builder's one call (the guide's Derived/Test/ToyasCard.lean, 'card_holds'). Laid BY PROGRAM, IN A SANDBOX (cutbox-door.mjs). By AI agents, Wed Nov 11 2026. No macro, syntax, notation, axiom, sorry.
-/
import Derived.Test.YtgopblhaapbimaaDoorRows
import GoSem.ClaimSeven
namespace Go.Proofs.YtgopblhaapbimaaDoor
namespace Rows

/-- THE TIED CARD OF 'socagelaw05.HandleTells'. -/
def handleTellsCard : Claim7 := { stood := { row := handleTellsRow, standIns := [], harness := (true, "81eb16cf143210c5f75365f158b78cc0743e43ecb12573a66b3f377be236ce69"), looks := false }, kinds := [], alts := [], laidByText := true, laidKinds := [.data, .data, .data], laidTests := true, laidLooks := .later }
def HandleTellsCardSaid : Prop := Claim7.holds Tryd.pinned (.plain (OpenSpec.ofChange handleTellsSpec)) handleTellsCard

/-- THE TIED CARD OF 'socagelaw05.HandleBack'. -/
def handleBackCard : Claim7 := { stood := { row := handleBackRow, standIns := [], harness := (true, "81eb16cf143210c5f75365f158b78cc0743e43ecb12573a66b3f377be236ce69"), looks := false }, kinds := [], alts := [], laidByText := true, laidKinds := [.data, .data, .data], laidTests := true, laidLooks := .later }
def HandleBackCardSaid : Prop := Claim7.holds Tryd.pinned (.plain (OpenSpec.ofChange handleBackSpec)) handleBackCard

/-- THE SECOND FORM's CARD OF 'socagelaw05.HandleTells'. -/
def handleTellsUptoCard : Claim7 := { stood := { row := handleTellsUptoRow, standIns := [], harness := (true, "81eb16cf143210c5f75365f158b78cc0743e43ecb12573a66b3f377be236ce69"), looks := false }, kinds := [], alts := [], laidByText := true, laidKinds := [.data, .data, .data], laidTests := true, laidLooks := .later }
def HandleTellsUptoCardSaid : Prop := Claim7.holds Tryd.pinned (.plain (OpenSpec.upto handleTellsSpec)) handleTellsUptoCard

/-- THE SECOND FORM's CARD OF 'socagelaw05.HandleBack'. -/
def handleBackUptoCard : Claim7 := { stood := { row := handleBackUptoRow, standIns := [], harness := (true, "81eb16cf143210c5f75365f158b78cc0743e43ecb12573a66b3f377be236ce69"), looks := false }, kinds := [], alts := [], laidByText := true, laidKinds := [.data, .data, .data], laidTests := true, laidLooks := .later }
def HandleBackUptoCardSaid : Prop := Claim7.holds Tryd.pinned (.plain (OpenSpec.upto handleBackSpec)) handleBackUptoCard
end Rows
end Go.Proofs.YtgopblhaapbimaaDoor
