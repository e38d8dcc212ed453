/- The document's heap in memory; whether a cell lives, what is pushed, a cell's size. The document's heap: counts; Alloc, Hold, Drop. The document's heap: Drop. The document's heap: Put. -/
import Derived.Test.YtiehcidmajdocaaGreatDoorLayHepL
import Derived.Test.YtiehcidmajdocaaGreatDoorLayHepP
import Derived.Test.YtiehcidmajdocaaGreatDoorLayWord
namespace Go.Proofs.YtiehcidmajdocaaGreatDoor
namespace Hp
open Go.RowKit
attribute [local go_sem ↓] Go.wp_at_zero Go.wp_at_succ

/-- The blocks of the document's heap: itself, its cells, their list. -/
structure Jds where
  d : Nat
  c : Nat
  f : Nat
end Hp
end Go.Proofs.YtiehcidmajdocaaGreatDoor

namespace Go.Proofs.YtiehcidmajdocaaGreatDoor
namespace Hp
open Go.RowKit
attribute [local go_sem ↓] Go.wp_at_zero Go.wp_at_succ

end Hp
end Go.Proofs.YtiehcidmajdocaaGreatDoor

namespace Go.Proofs.YtiehcidmajdocaaGreatDoor
namespace Hp
open Go.RowKit
attribute [local go_sem ↓] Go.wp_at_zero Go.wp_at_succ

end Hp
end Go.Proofs.YtiehcidmajdocaaGreatDoor

namespace Go.Proofs.YtiehcidmajdocaaGreatDoor
namespace Hp
open Go.RowKit
attribute [local go_sem ↓] Go.wp_at_zero Go.wp_at_succ

end Hp
end Go.Proofs.YtiehcidmajdocaaGreatDoor
