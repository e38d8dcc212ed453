/-
  DERIVED. GIVEN WITH THE SEED: THE CARDS: each row of YtdhgpmndgcggfaaGreatDoorRows.lean that lists a variable, with what it lists TIED to the program's text (the seventh form; the later family's looks); each row that meets fmt, with fmt's text TOLD by the authors' own Lean function (tested against real Go, not proved from fmt's source: count such statements apart). THE CARD IS WHAT COUNTS. Prove the row's statement (the work); the ties are given (YtdhgpmndgcggfaaGreatDoorTie.lean); close each card by the builder's one call (the guide's Derived/Test/ToyasCard.lean, 'card_holds'). Laid BY PROGRAM, IN A SANDBOX (cutbox-door.mjs). By AI agents, Wed Nov 11 2026. No macro, syntax, notation, axiom, sorry.
-/
import Derived.Test.YtdhgpmndgcggfaaGreatDoorRows
import GoSem.ClaimSeven
namespace Go.Proofs.YtdhgpmndgcggfaaGreatDoor
namespace Rows

/-- THE TIED CARD OF 'socagelaw17.WorldPlays'. -/
def worldPlaysCard : Claim7 := { stood := { row := worldPlaysRow, standIns := [], harness := (true, "18dcff3ce05ec49f4e7bb4991dead47f73d8407063673863cf5217c0fed9acc4"), looks := true }, kinds := [], alts := [], laidByText := true, laidKinds := [.data], laidTests := true, laidLooks := .later }
def WorldPlaysCardSaid : Prop := Claim7.holds Tryz.pinned (.plain (OpenSpec.ofChange worldPlaysSpec)) worldPlaysCard

/-- THE TIED CARD OF 'socagelaw17.WorldApart'. -/
def worldApartCard : Claim7 := { stood := { row := worldApartRow, standIns := [], harness := (true, "18dcff3ce05ec49f4e7bb4991dead47f73d8407063673863cf5217c0fed9acc4"), looks := true }, kinds := [], alts := [], laidByText := true, laidKinds := [.data], laidTests := true, laidLooks := .later }
def WorldApartCardSaid : Prop := Claim7.holds Tryz.pinned (.plain (OpenSpec.ofChange worldApartSpec)) worldApartCard

/-- THE TIED CARD OF 'socagelaw17.WorldIssued'. -/
def worldIssuedCard : Claim7 := { stood := { row := worldIssuedRow, standIns := [], harness := (true, "18dcff3ce05ec49f4e7bb4991dead47f73d8407063673863cf5217c0fed9acc4"), looks := true }, kinds := [], alts := [], laidByText := true, laidKinds := [.data], laidTests := true, laidLooks := .later }
def WorldIssuedCardSaid : Prop := Claim7.holds Tryz.pinned (.plain (OpenSpec.ofChange worldIssuedSpec)) worldIssuedCard

/-- THE TIED CARD OF 'socagelaw17.WorldWeak'. -/
def worldWeakCard : Claim7 := { stood := { row := worldWeakRow, standIns := [], harness := (true, "18dcff3ce05ec49f4e7bb4991dead47f73d8407063673863cf5217c0fed9acc4"), looks := true }, kinds := [], alts := [], laidByText := true, laidKinds := [.data], laidTests := true, laidLooks := .later }
def WorldWeakCardSaid : Prop := Claim7.holds Tryz.pinned (.plain (OpenSpec.ofChange worldWeakSpec)) worldWeakCard

/-- THE SECOND FORM's CARD OF 'socagelaw17.WorldPlays'. -/
def worldPlaysUptoCard : Claim7 := { stood := { row := worldPlaysUptoRow, standIns := [], harness := (true, "18dcff3ce05ec49f4e7bb4991dead47f73d8407063673863cf5217c0fed9acc4"), looks := true }, kinds := [], alts := [], laidByText := true, laidKinds := [.data], laidTests := true, laidLooks := .later }
def WorldPlaysUptoCardSaid : Prop := Claim7.holds Tryz.pinned (.plain (OpenSpec.upto worldPlaysSpec)) worldPlaysUptoCard

/-- THE SECOND FORM's CARD OF 'socagelaw17.WorldApart'. -/
def worldApartUptoCard : Claim7 := { stood := { row := worldApartUptoRow, standIns := [], harness := (true, "18dcff3ce05ec49f4e7bb4991dead47f73d8407063673863cf5217c0fed9acc4"), looks := true }, kinds := [], alts := [], laidByText := true, laidKinds := [.data], laidTests := true, laidLooks := .later }
def WorldApartUptoCardSaid : Prop := Claim7.holds Tryz.pinned (.plain (OpenSpec.upto worldApartSpec)) worldApartUptoCard

/-- THE SECOND FORM's CARD OF 'socagelaw17.WorldIssued'. -/
def worldIssuedUptoCard : Claim7 := { stood := { row := worldIssuedUptoRow, standIns := [], harness := (true, "18dcff3ce05ec49f4e7bb4991dead47f73d8407063673863cf5217c0fed9acc4"), looks := true }, kinds := [], alts := [], laidByText := true, laidKinds := [.data], laidTests := true, laidLooks := .later }
def WorldIssuedUptoCardSaid : Prop := Claim7.holds Tryz.pinned (.plain (OpenSpec.upto worldIssuedSpec)) worldIssuedUptoCard

/-- THE SECOND FORM's CARD OF 'socagelaw17.WorldWeak'. -/
def worldWeakUptoCard : Claim7 := { stood := { row := worldWeakUptoRow, standIns := [], harness := (true, "18dcff3ce05ec49f4e7bb4991dead47f73d8407063673863cf5217c0fed9acc4"), looks := true }, kinds := [], alts := [], laidByText := true, laidKinds := [.data], laidTests := true, laidLooks := .later }
def WorldWeakUptoCardSaid : Prop := Claim7.holds Tryz.pinned (.plain (OpenSpec.upto worldWeakSpec)) worldWeakUptoCard
end Rows
end Go.Proofs.YtdhgpmndgcggfaaGreatDoor
