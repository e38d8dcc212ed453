/- The document's list in memory, and the contracts of its Gen, Taken, count, Free, Retired. The document's Give. The document's Take. The document's Take of a cell. -/
import Derived.Test.YtiehcidmajdocaaGreatDoorLayFreeB
import Derived.Deep.AppendLies
import Derived.BigRegion
import Derived.Deep.RegionLaw
namespace Go.Proofs.YtiehcidmajdocaaGreatDoor
open Go.RowKit

end Go.Proofs.YtiehcidmajdocaaGreatDoor

namespace Go.Proofs.YtiehcidmajdocaaGreatDoor
open Go.RowKit

end Go.Proofs.YtiehcidmajdocaaGreatDoor

namespace Go.Proofs.YtiehcidmajdocaaGreatDoor
open Go.RowKit
attribute [local go_sem ↓] Go.wp_at_zero Go.wp_at_succ

end Go.Proofs.YtiehcidmajdocaaGreatDoor

namespace Go.Proofs.YtiehcidmajdocaaGreatDoor
open Go.RowKit
attribute [local go_sem ↓] Go.wp_at_zero Go.wp_at_succ

end Go.Proofs.YtiehcidmajdocaaGreatDoor
