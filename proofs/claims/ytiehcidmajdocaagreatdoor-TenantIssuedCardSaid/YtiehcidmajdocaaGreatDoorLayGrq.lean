/- Graphs among the arguments, opened. Never the living, in plain words. -/
import Derived.Test.YtiehcidmajdocaaGreatDoorLayGra
import Derived.Test.YtiehcidmajdocaaGreatDoorLayBase
import Derived.SizedLaws
import Derived.Test.YtiehcidmajdocaaGreatDoorLayTri
namespace Go.Proofs.YtiehcidmajdocaaGreatDoor
namespace Gr
open Go.ChangeShapes Go.WideShapes Go.ChangeAt Go.WideMaps Go.WideElems Go.RowKit Go.Deep

end Gr
end Go.Proofs.YtiehcidmajdocaaGreatDoor

namespace Go.Proofs.YtiehcidmajdocaaGreatDoor
namespace Tr
open Go.RowKit Go.Maps Gr

section
variable {G : Gp} {k gray : List Int}
theorem held_iff {z : Int} : z ∈ heldL G k gray ↔ z ∈ gray ∧ 0 < restV G k gray z := by
  unfold heldL
  rw [List.mem_filter]
  simp
theorem node_of {z : Int} (h : z ∈ ids G) : ∃ (i : Nat) (x : Nd), G.nodes[i]? = some x ∧ x.id = z := by
  obtain ⟨i, hi⟩ := List.mem_iff_getElem?.1 h
  obtain ⟨x, hx, e⟩ := ids_at_inv hi
  exact ⟨i, x, hx, e⟩
end
end Tr
end Go.Proofs.YtiehcidmajdocaaGreatDoor
