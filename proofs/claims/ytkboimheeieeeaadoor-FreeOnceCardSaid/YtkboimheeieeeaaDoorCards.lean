/-
  DERIVED. GIVEN WITH THE SEED: THE CARDS: each row of YtkboimheeieeeaaDoorRows.lean that lists a variable, with what it lists TIED to the program's text (the seventh form; the later family's looks); each row that meets fmt, with fmt's text TOLD by the authors' own Lean function (tested against real Go, not proved from fmt's source: count such statements apart). THE CARD IS WHAT COUNTS. Prove the row's statement (the work); the ties are given (YtkboimheeieeeaaDoorTie.lean); close each card by the builder's one call (the guide's Derived/Test/ToyasCard.lean, 'card_holds'). Laid BY PROGRAM, IN A SANDBOX (cutbox-door.mjs). By AI agents, Wed Nov 11 2026. No macro, syntax, notation, axiom, sorry.
-/
import Derived.Test.YtkboimheeieeeaaDoorRows
import GoSem.ClaimSeven
namespace Go.Proofs.YtkboimheeieeeaaDoor
namespace Rows

/-- THE TIED CARD OF 'socagelaw06.FreePlays'. -/
def freePlaysCard : Claim7 := { stood := { row := freePlaysRow, standIns := [], harness := (true, "75b75db8264925aa4d485f25f826a127777b1eff010d02117d796c850de225a7"), looks := false }, kinds := [], alts := [], laidByText := true, laidKinds := [.data], laidTests := true, laidLooks := .later }
def FreePlaysCardSaid : Prop := Claim7.holds Tryd.pinned (.plain (OpenSpec.ofChange freePlaysSpec)) freePlaysCard

/-- THE TIED CARD OF 'socagelaw06.FreeOnce'. -/
def freeOnceCard : Claim7 := { stood := { row := freeOnceRow, standIns := [], harness := (true, "75b75db8264925aa4d485f25f826a127777b1eff010d02117d796c850de225a7"), looks := false }, kinds := [], alts := [], laidByText := true, laidKinds := [.data], laidTests := true, laidLooks := .later }
def FreeOnceCardSaid : Prop := Claim7.holds Tryd.pinned (.plain (OpenSpec.ofChange freeOnceSpec)) freeOnceCard

/-- THE SECOND FORM's CARD OF 'socagelaw06.FreePlays'. -/
def freePlaysUptoCard : Claim7 := { stood := { row := freePlaysUptoRow, standIns := [], harness := (true, "75b75db8264925aa4d485f25f826a127777b1eff010d02117d796c850de225a7"), looks := false }, kinds := [], alts := [], laidByText := true, laidKinds := [.data], laidTests := true, laidLooks := .later }
def FreePlaysUptoCardSaid : Prop := Claim7.holds Tryd.pinned (.plain (OpenSpec.upto freePlaysSpec)) freePlaysUptoCard

/-- THE SECOND FORM's CARD OF 'socagelaw06.FreeOnce'. -/
def freeOnceUptoCard : Claim7 := { stood := { row := freeOnceUptoRow, standIns := [], harness := (true, "75b75db8264925aa4d485f25f826a127777b1eff010d02117d796c850de225a7"), looks := false }, kinds := [], alts := [], laidByText := true, laidKinds := [.data], laidTests := true, laidLooks := .later }
def FreeOnceUptoCardSaid : Prop := Claim7.holds Tryd.pinned (.plain (OpenSpec.upto freeOnceSpec)) freeOnceUptoCard
end Rows
end Go.Proofs.YtkboimheeieeeaaDoor
