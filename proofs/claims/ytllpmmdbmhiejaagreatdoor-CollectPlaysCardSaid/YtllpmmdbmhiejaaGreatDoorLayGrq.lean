/- Graphs among the arguments, opened. Never the living, in plain words. -/
import Derived.Test.YtllpmmdbmhiejaaGreatDoorLayGra
import Derived.Test.YtllpmmdbmhiejaaGreatDoorLayBase
import Derived.SizedLaws
import Derived.Test.YtllpmmdbmhiejaaGreatDoorLayTri
namespace Go.Proofs.YtllpmmdbmhiejaaGreatDoor
namespace Gr
open Go.ChangeShapes Go.WideShapes Go.ChangeAt Go.WideMaps Go.WideElems Go.RowKit Go.Deep

section
variable {H : Type} {enc : TypeId × Value → H} {w : World} {held : Bool} {fuel : Nat} {cs : List Value} {y : DataW H × List MemPlace}
/-- A node, with the value of its Out. -/
structure NdV where
  n : Nd
  A : Option Addr
  cap : Nat
end
end Gr
end Go.Proofs.YtllpmmdbmhiejaaGreatDoor

namespace Go.Proofs.YtllpmmdbmhiejaaGreatDoor
namespace Tr
open Go.RowKit Go.Maps Gr

/-- Counts that are the graph's own, or greater, by less than 1000; the graph is small. -/
structure Big (G : Gp) (k : List Int) : Prop where
  len : k.length = G.nodes.length
  low : ∀ (i : Nat) (x : Nd) (c : Int), G.nodes[i]? = some x → k[i]? = some c → ((allP G).count x.id : Int) ≤ c ∧ c ≤ ((allP G).count x.id : Int) + 1000
  small : (allP G).length ≤ 100000
section
variable {G : Gp} {k gray : List Int}
theorem held_iff {z : Int} : z ∈ heldL G k gray ↔ z ∈ gray ∧ 0 < restV G k gray z := by
  unfold heldL
  rw [List.mem_filter]
  simp
theorem node_of {z : Int} (h : z ∈ ids G) : ∃ (i : Nat) (x : Nd), G.nodes[i]? = some x ∧ x.id = z := by
  obtain ⟨i, hi⟩ := List.mem_iff_getElem?.1 h
  obtain ⟨x, hx, e⟩ := ids_at_inv hi
  exact ⟨i, x, hx, e⟩
end
end Tr
end Go.Proofs.YtllpmmdbmhiejaaGreatDoor
