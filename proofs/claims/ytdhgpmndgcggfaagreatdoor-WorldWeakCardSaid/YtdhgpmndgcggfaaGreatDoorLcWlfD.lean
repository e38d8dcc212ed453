/- The laws of worlds: rows of answers; what is told to a tenant. Written by mkWlfD.py. -/
import Derived.Test.YtdhgpmndgcggfaaGreatDoorLcWlfB
import Derived.Maps.AppendAt
import Derived.BigRegion
import Derived.Deep.RegionHeld3
namespace Go.Proofs.YtdhgpmndgcggfaaGreatDoor
namespace Wl
open Hp Tn Px Go.RowKit
attribute [local go_sem ↓] Go.wp_at_zero Go.wp_at_succ
end Wl
end Go.Proofs.YtdhgpmndgcggfaaGreatDoor
