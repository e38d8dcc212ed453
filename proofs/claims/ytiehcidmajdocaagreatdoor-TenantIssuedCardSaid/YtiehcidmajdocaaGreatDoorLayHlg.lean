/- A share and acts among the arguments, opened. -/
import Derived.Test.YtiehcidmajdocaaGreatDoorLayTab
import Derived.Test.YtiehcidmajdocaaGreatDoorLayBase
import Derived.Test.YtiehcidmajdocaaGreatDoorLayLaw
namespace Go.Proofs.YtiehcidmajdocaaGreatDoor
open Hp
open Go.ChangeShapes Go.WideShapes Go.ChangeAt Go.WideMaps Go.WideElems Go.RowKit Go.Deep

end Go.Proofs.YtiehcidmajdocaaGreatDoor
