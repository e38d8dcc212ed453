/- The laws of heaps: HeapPlays as a call. -/
import Derived.Test.YtbpdgonpmfbpoaaGreatDoorHlwC
import Derived.Test.YtbpdgonpmfbpoaaGreatDoorHlwF
namespace Go.Proofs.YtbpdgonpmfbpoaaGreatDoor
namespace Hp
open Go.RowKit
theorem heap_plays (x : Sh) (A : Option Addr) (cap : Nat) (L : List Hact) (w : World) (hl : Lay w) (hL : HactReads w A L) (hlen : L.length ≤ 9223372036854775807) :
    Calls Tryz.prog 3 #[shV x, .slice A L.length cap] w fun e w' => e = .returned (.bool true) ∧ Below w.heap.size w w' :=
  plays13_any (fun _ _ _ _ _ _ _ _ _ _ _ _ h hok a ha hq => reads_any h hok a ha hq) x A cap L w hl hL hlen
end Hp
end Go.Proofs.YtbpdgonpmfbpoaaGreatDoor
