/-
  DERIVED. GIVEN WITH THE SEED: THE CARDS: each row of YtiehcidmajdocaaGreatDoorRows.lean that lists a variable, with what it lists TIED to the program's text (the seventh form; the later family's looks); each row that meets fmt, with fmt's text TOLD by the authors' own Lean function (tested against real Go, not proved from fmt's source: count such statements apart). THE CARD IS WHAT COUNTS. Prove the row's statement (the work); the ties are given (YtiehcidmajdocaaGreatDoorTie.lean); close each card by the builder's one call (the guide's Derived/Test/ToyasCard.lean, 'card_holds'). Laid BY PROGRAM, IN A SANDBOX (cutbox-door.mjs). By AI agents, Wed Nov 11 2026. No macro, syntax, notation, axiom, sorry.
-/
import Derived.Test.YtiehcidmajdocaaGreatDoorRows
import GoSem.ClaimSeven
namespace Go.Proofs.YtiehcidmajdocaaGreatDoor
namespace Rows

/-- THE TIED CARD OF 'socagelaw16.TenantPlays'. -/
def tenantPlaysCard : Claim7 := { stood := { row := tenantPlaysRow, standIns := [], harness := (true, "ae2a3a9610af3e7484489bd1391a5ed96f1cc55d4ff2b8bf848768e891d3acd4"), looks := true }, kinds := [], alts := [], laidByText := true, laidKinds := [.data], laidTests := true, laidLooks := .later }
def TenantPlaysCardSaid : Prop := Claim7.holds Tryz.pinned (.plain (OpenSpec.ofChange tenantPlaysSpec)) tenantPlaysCard

/-- THE TIED CARD OF 'socagelaw16.TenantIssued'. -/
def tenantIssuedCard : Claim7 := { stood := { row := tenantIssuedRow, standIns := [], harness := (true, "ae2a3a9610af3e7484489bd1391a5ed96f1cc55d4ff2b8bf848768e891d3acd4"), looks := true }, kinds := [], alts := [], laidByText := true, laidKinds := [.data], laidTests := true, laidLooks := .later }
def TenantIssuedCardSaid : Prop := Claim7.holds Tryz.pinned (.plain (OpenSpec.ofChange tenantIssuedSpec)) tenantIssuedCard

/-- THE TIED CARD OF 'socagelaw16.TenantErrors'. -/
def tenantErrorsCard : Claim7 := { stood := { row := tenantErrorsRow, standIns := [], harness := (true, "ae2a3a9610af3e7484489bd1391a5ed96f1cc55d4ff2b8bf848768e891d3acd4"), looks := true }, kinds := [], alts := [], laidByText := true, laidKinds := [.data], laidTests := true, laidLooks := .later }
def TenantErrorsCardSaid : Prop := Claim7.holds Tryz.pinned (.plain (OpenSpec.ofChange tenantErrorsSpec)) tenantErrorsCard

/-- THE SECOND FORM's CARD OF 'socagelaw16.TenantPlays'. -/
def tenantPlaysUptoCard : Claim7 := { stood := { row := tenantPlaysUptoRow, standIns := [], harness := (true, "ae2a3a9610af3e7484489bd1391a5ed96f1cc55d4ff2b8bf848768e891d3acd4"), looks := true }, kinds := [], alts := [], laidByText := true, laidKinds := [.data], laidTests := true, laidLooks := .later }
def TenantPlaysUptoCardSaid : Prop := Claim7.holds Tryz.pinned (.plain (OpenSpec.upto tenantPlaysSpec)) tenantPlaysUptoCard

/-- THE SECOND FORM's CARD OF 'socagelaw16.TenantIssued'. -/
def tenantIssuedUptoCard : Claim7 := { stood := { row := tenantIssuedUptoRow, standIns := [], harness := (true, "ae2a3a9610af3e7484489bd1391a5ed96f1cc55d4ff2b8bf848768e891d3acd4"), looks := true }, kinds := [], alts := [], laidByText := true, laidKinds := [.data], laidTests := true, laidLooks := .later }
def TenantIssuedUptoCardSaid : Prop := Claim7.holds Tryz.pinned (.plain (OpenSpec.upto tenantIssuedSpec)) tenantIssuedUptoCard

/-- THE SECOND FORM's CARD OF 'socagelaw16.TenantErrors'. -/
def tenantErrorsUptoCard : Claim7 := { stood := { row := tenantErrorsUptoRow, standIns := [], harness := (true, "ae2a3a9610af3e7484489bd1391a5ed96f1cc55d4ff2b8bf848768e891d3acd4"), looks := true }, kinds := [], alts := [], laidByText := true, laidKinds := [.data], laidTests := true, laidLooks := .later }
def TenantErrorsUptoCardSaid : Prop := Claim7.holds Tryz.pinned (.plain (OpenSpec.upto tenantErrorsSpec)) tenantErrorsUptoCard
end Rows
end Go.Proofs.YtiehcidmajdocaaGreatDoor
