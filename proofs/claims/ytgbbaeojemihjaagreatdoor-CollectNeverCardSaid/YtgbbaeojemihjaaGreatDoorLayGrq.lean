/- Graphs among the arguments, opened. -/
import Derived.Test.YtgbbaeojemihjaaGreatDoorLayGra
import Derived.Test.YtgbbaeojemihjaaGreatDoorLayBase
import Derived.SizedLaws
namespace Go.Proofs.YtgbbaeojemihjaaGreatDoor
namespace Gr
open Go.ChangeShapes Go.WideShapes Go.ChangeAt Go.WideMaps Go.WideElems Go.RowKit Go.Deep

section
variable {H : Type} {enc : TypeId × Value → H} {w : World} {held : Bool} {fuel : Nat} {cs : List Value} {y : DataW H × List MemPlace}
/-- A node, with the value of its Out. -/
structure NdV where
  n : Nd
  A : Option Addr
  cap : Nat
def NdV.cells (x : NdV) : List Value := [.int .i64 x.n.id, .slice x.A x.n.out.length x.cap]
end
end Gr
end Go.Proofs.YtgbbaeojemihjaaGreatDoor
