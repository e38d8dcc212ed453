/- WorldApart as a call. -/
import Derived.Test.YtdhgpmndgcggfaaGreatDoorLcWlfD
import Derived.BigQuiet
namespace Go.Proofs.YtdhgpmndgcggfaaGreatDoor
namespace Wl
open Hp Tn Px Go.RowKit
attribute [local go_sem ↓] Go.wp_at_zero Go.wp_at_succ
end Wl
end Go.Proofs.YtdhgpmndgcggfaaGreatDoor
