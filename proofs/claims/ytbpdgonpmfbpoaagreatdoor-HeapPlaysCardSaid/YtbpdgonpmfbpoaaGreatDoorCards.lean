/-
  DERIVED. GIVEN WITH THE SEED: THE CARDS: each row of YtbpdgonpmfbpoaaGreatDoorRows.lean that lists a variable, with what it lists TIED to the program's text (the seventh form; the later family's looks); each row that meets fmt, with fmt's text TOLD by the authors' own Lean function (tested against real Go, not proved from fmt's source: count such statements apart). THE CARD IS WHAT COUNTS. Prove the row's statement (the work); the ties are given (YtbpdgonpmfbpoaaGreatDoorTie.lean); close each card by the builder's one call (the guide's Derived/Test/ToyasCard.lean, 'card_holds'). Laid BY PROGRAM, IN A SANDBOX (cutbox-door.mjs). By AI agents, Wed Nov 11 2026. No macro, syntax, notation, axiom, sorry.
-/
import Derived.Test.YtbpdgonpmfbpoaaGreatDoorRows
import GoSem.ClaimSeven
namespace Go.Proofs.YtbpdgonpmfbpoaaGreatDoor
namespace Rows

/-- THE TIED CARD OF 'socagelaw13.HeapPlays'. -/
def heapPlaysCard : Claim7 := { stood := { row := heapPlaysRow, standIns := [], harness := (true, "38e614031ed702d21ed4b4aeaf75c17fcbf0d16dccd98dba7869da8a57aa0598"), looks := true }, kinds := [], alts := [], laidByText := true, laidKinds := [.data], laidTests := true, laidLooks := .later }
def HeapPlaysCardSaid : Prop := Claim7.holds Tryz.pinned (.plain (OpenSpec.ofChange heapPlaysSpec)) heapPlaysCard

/-- THE TIED CARD OF 'socagelaw13.HeapCounted'. -/
def heapCountedCard : Claim7 := { stood := { row := heapCountedRow, standIns := [], harness := (true, "38e614031ed702d21ed4b4aeaf75c17fcbf0d16dccd98dba7869da8a57aa0598"), looks := true }, kinds := [], alts := [], laidByText := true, laidKinds := [.data], laidTests := true, laidLooks := .later }
def HeapCountedCardSaid : Prop := Claim7.holds Tryz.pinned (.plain (OpenSpec.ofChange heapCountedSpec)) heapCountedCard

/-- THE TIED CARD OF 'socagelaw13.HeapCovered'. -/
def heapCoveredCard : Claim7 := { stood := { row := heapCoveredRow, standIns := [], harness := (true, "38e614031ed702d21ed4b4aeaf75c17fcbf0d16dccd98dba7869da8a57aa0598"), looks := true }, kinds := [], alts := [], laidByText := true, laidKinds := [.data], laidTests := true, laidLooks := .later }
def HeapCoveredCardSaid : Prop := Claim7.holds Tryz.pinned (.plain (OpenSpec.ofChange heapCoveredSpec)) heapCoveredCard

/-- THE SECOND FORM's CARD OF 'socagelaw13.HeapPlays'. -/
def heapPlaysUptoCard : Claim7 := { stood := { row := heapPlaysUptoRow, standIns := [], harness := (true, "38e614031ed702d21ed4b4aeaf75c17fcbf0d16dccd98dba7869da8a57aa0598"), looks := true }, kinds := [], alts := [], laidByText := true, laidKinds := [.data], laidTests := true, laidLooks := .later }
def HeapPlaysUptoCardSaid : Prop := Claim7.holds Tryz.pinned (.plain (OpenSpec.upto heapPlaysSpec)) heapPlaysUptoCard

/-- THE SECOND FORM's CARD OF 'socagelaw13.HeapCounted'. -/
def heapCountedUptoCard : Claim7 := { stood := { row := heapCountedUptoRow, standIns := [], harness := (true, "38e614031ed702d21ed4b4aeaf75c17fcbf0d16dccd98dba7869da8a57aa0598"), looks := true }, kinds := [], alts := [], laidByText := true, laidKinds := [.data], laidTests := true, laidLooks := .later }
def HeapCountedUptoCardSaid : Prop := Claim7.holds Tryz.pinned (.plain (OpenSpec.upto heapCountedSpec)) heapCountedUptoCard

/-- THE SECOND FORM's CARD OF 'socagelaw13.HeapCovered'. -/
def heapCoveredUptoCard : Claim7 := { stood := { row := heapCoveredUptoRow, standIns := [], harness := (true, "38e614031ed702d21ed4b4aeaf75c17fcbf0d16dccd98dba7869da8a57aa0598"), looks := true }, kinds := [], alts := [], laidByText := true, laidKinds := [.data], laidTests := true, laidLooks := .later }
def HeapCoveredUptoCardSaid : Prop := Claim7.holds Tryz.pinned (.plain (OpenSpec.upto heapCoveredSpec)) heapCoveredUptoCard
end Rows
end Go.Proofs.YtbpdgonpmfbpoaaGreatDoor
