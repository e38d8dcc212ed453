/- The document's cells in memory; its Slots, Alloc, Live. The document's cells: Header, Get. The document's cells: Get. The document's cells: SetCount, Set. The document's cells: Set. -/
import Derived.Test.YtiehcidmajdocaaGreatDoorLayCellC
import Derived.StillTailTactics
namespace Go.Proofs.YtiehcidmajdocaaGreatDoor
open Go.RowKit
attribute [local go_sem ↓] Go.wp_at_zero Go.wp_at_succ

section
variable {w w' : World} {v : Value} {R : List (Nat × Nat)} {L : List Int}
theorem owns_set {e : TypeId} {n g : Nat} {xs : List Value} (h : w.ownsRow 0 e 1 v n xs) (hv : v.ownBlock = some g) (j : Nat) (u : Value) : (w.setCell ⟨g, j, none⟩ u).ownsRow 0 e 1 v n (xs.set j u) := by
  have h' := h
  rcases h.2 with ⟨rfl, _⟩ | ⟨g', cap, cur, rfl, _⟩
  · simp [Value.ownBlock] at hv
  · obtain rfl : g' = g := by simpa [Value.ownBlock] using hv
    exact (h'.stored j u).1
end

end Go.Proofs.YtiehcidmajdocaaGreatDoor

namespace Go.Proofs.YtiehcidmajdocaaGreatDoor
open Go.RowKit
attribute [local go_sem ↓] Go.wp_at_zero Go.wp_at_succ

end Go.Proofs.YtiehcidmajdocaaGreatDoor

namespace Go.Proofs.YtiehcidmajdocaaGreatDoor
open Go.RowKit
attribute [local go_sem ↓] Go.wp_at_zero Go.wp_at_succ

end Go.Proofs.YtiehcidmajdocaaGreatDoor

namespace Go.Proofs.YtiehcidmajdocaaGreatDoor
open Go.RowKit
attribute [local go_sem ↓] Go.wp_at_zero Go.wp_at_succ

end Go.Proofs.YtiehcidmajdocaaGreatDoor

namespace Go.Proofs.YtiehcidmajdocaaGreatDoor
open Go.RowKit
attribute [local go_sem ↓] Go.wp_at_zero Go.wp_at_succ

end Go.Proofs.YtiehcidmajdocaaGreatDoor
