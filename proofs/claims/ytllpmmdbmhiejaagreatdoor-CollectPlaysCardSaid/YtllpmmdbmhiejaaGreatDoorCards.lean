/-
  DERIVED. GIVEN WITH THE SEED: THE CARDS: each row of YtllpmmdbmhiejaaGreatDoorRows.lean that lists a variable, with what it lists TIED to the program's text (the seventh form; the later family's looks); each row that meets fmt, with fmt's text TOLD by the authors' own Lean function (tested against real Go, not proved from fmt's source: count such statements apart). THE CARD IS WHAT COUNTS. Prove the row's statement (the work); the ties are given (YtllpmmdbmhiejaaGreatDoorTie.lean); close each card by the builder's one call (the guide's Derived/Test/ToyasCard.lean, 'card_holds'). Laid BY PROGRAM, IN A SANDBOX (cutbox-door.mjs). By AI agents, Wed Nov 11 2026. No macro, syntax, notation, axiom, sorry.
-/
import Derived.Test.YtllpmmdbmhiejaaGreatDoorRows
import GoSem.ClaimSeven
namespace Go.Proofs.YtllpmmdbmhiejaaGreatDoor
namespace Rows

/-- THE TIED CARD OF 'socagelaw14.CollectPlays'. -/
def collectPlaysCard : Claim7 := { stood := { row := collectPlaysRow, standIns := [], harness := (true, "07c88a697de42a782f1762d9f708305cd4695018a78a949bd431aab939847b9d"), looks := true }, kinds := [], alts := [], laidByText := true, laidKinds := [.data], laidTests := true, laidLooks := .later }
def CollectPlaysCardSaid : Prop := Claim7.holds Tryz.pinned (.plain (OpenSpec.ofChange collectPlaysSpec)) collectPlaysCard

/-- THE TIED CARD OF 'socagelaw14.CollectNever'. -/
def collectNeverCard : Claim7 := { stood := { row := collectNeverRow, standIns := [], harness := (true, "07c88a697de42a782f1762d9f708305cd4695018a78a949bd431aab939847b9d"), looks := true }, kinds := [], alts := [], laidByText := true, laidKinds := [.data], laidTests := true, laidLooks := .later }
def CollectNeverCardSaid : Prop := Claim7.holds Tryz.pinned (.plain (OpenSpec.ofChange collectNeverSpec)) collectNeverCard

/-- THE TIED CARD OF 'socagelaw14.CollectAll'. -/
def collectAllCard : Claim7 := { stood := { row := collectAllRow, standIns := [], harness := (true, "07c88a697de42a782f1762d9f708305cd4695018a78a949bd431aab939847b9d"), looks := true }, kinds := [], alts := [], laidByText := true, laidKinds := [.data], laidTests := true, laidLooks := .later }
def CollectAllCardSaid : Prop := Claim7.holds Tryz.pinned (.plain (OpenSpec.ofChange collectAllSpec)) collectAllCard

/-- THE TIED CARD OF 'socagelaw14.CollectLittle'. -/
def collectLittleCard : Claim7 := { stood := { row := collectLittleRow, standIns := [], harness := (true, "07c88a697de42a782f1762d9f708305cd4695018a78a949bd431aab939847b9d"), looks := true }, kinds := [], alts := [], laidByText := true, laidKinds := [.data], laidTests := true, laidLooks := .later }
def CollectLittleCardSaid : Prop := Claim7.holds Tryz.pinned (.plain (OpenSpec.ofChange collectLittleSpec)) collectLittleCard

/-- THE SECOND FORM's CARD OF 'socagelaw14.CollectPlays'. -/
def collectPlaysUptoCard : Claim7 := { stood := { row := collectPlaysUptoRow, standIns := [], harness := (true, "07c88a697de42a782f1762d9f708305cd4695018a78a949bd431aab939847b9d"), looks := true }, kinds := [], alts := [], laidByText := true, laidKinds := [.data], laidTests := true, laidLooks := .later }
def CollectPlaysUptoCardSaid : Prop := Claim7.holds Tryz.pinned (.plain (OpenSpec.upto collectPlaysSpec)) collectPlaysUptoCard

/-- THE SECOND FORM's CARD OF 'socagelaw14.CollectNever'. -/
def collectNeverUptoCard : Claim7 := { stood := { row := collectNeverUptoRow, standIns := [], harness := (true, "07c88a697de42a782f1762d9f708305cd4695018a78a949bd431aab939847b9d"), looks := true }, kinds := [], alts := [], laidByText := true, laidKinds := [.data], laidTests := true, laidLooks := .later }
def CollectNeverUptoCardSaid : Prop := Claim7.holds Tryz.pinned (.plain (OpenSpec.upto collectNeverSpec)) collectNeverUptoCard

/-- THE SECOND FORM's CARD OF 'socagelaw14.CollectAll'. -/
def collectAllUptoCard : Claim7 := { stood := { row := collectAllUptoRow, standIns := [], harness := (true, "07c88a697de42a782f1762d9f708305cd4695018a78a949bd431aab939847b9d"), looks := true }, kinds := [], alts := [], laidByText := true, laidKinds := [.data], laidTests := true, laidLooks := .later }
def CollectAllUptoCardSaid : Prop := Claim7.holds Tryz.pinned (.plain (OpenSpec.upto collectAllSpec)) collectAllUptoCard

/-- THE SECOND FORM's CARD OF 'socagelaw14.CollectLittle'. -/
def collectLittleUptoCard : Claim7 := { stood := { row := collectLittleUptoRow, standIns := [], harness := (true, "07c88a697de42a782f1762d9f708305cd4695018a78a949bd431aab939847b9d"), looks := true }, kinds := [], alts := [], laidByText := true, laidKinds := [.data], laidTests := true, laidLooks := .later }
def CollectLittleUptoCardSaid : Prop := Claim7.holds Tryz.pinned (.plain (OpenSpec.upto collectLittleSpec)) collectLittleUptoCard
end Rows
end Go.Proofs.YtllpmmdbmhiejaaGreatDoor
