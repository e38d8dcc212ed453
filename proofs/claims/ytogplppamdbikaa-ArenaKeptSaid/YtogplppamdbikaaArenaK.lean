/- ArenaKept, as a call, for whatever arguments. -/
import Derived.Test.YtogplppamdbikaaArenaJ
import Derived.Test.YtogplppamdbikaaArenaH
namespace Go.Proofs.Ytogplppamdbikaa
open Go.RowKit

set_option maxRecDepth 100000 in
set_option maxHeartbeats 400000 in
theorem kept2_long (u v : Int) (A : Option Addr) (cap : Nat) (m : Nat) (w : World) (h : 100 < m) (hm : m ≤ 9223372036854775807) :
    Calls Try.prog 4 #[.int .u16 u, .slice A m cap, .int .u16 v] w fun e w' => e = .returned (.bool true) ∧ Below w.heap.size w w' := by
  have h' : decide (100 < m) = true := by simpa using h
  go_enter Try.func4, Try.ntmps4
  go_wp2_with (go_at_call 5; refine (alive2_any _).mono ?_; rintro e v5 ⟨rfl, b5⟩)
  go_ret
  exact ⟨rfl, b5⟩
theorem kept2_any (u v : Int) (A : Option Addr) (cap : Nat) (L : List Act2) (w : World) (hL : ActReads w A L) (hlen : L.length ≤ 9223372036854775807) (hu : 0 ≤ u ∧ u ≤ 65535) (hv : 0 ≤ v ∧ v ≤ 65535) :
    Calls Try.prog 4 #[.int .u16 u, .slice A L.length cap, .int .u16 v] w fun e w' => e = .returned (.bool true) ∧ Below w.heap.size w w' := by
  by_cases h : 100 < L.length
  · exact kept2_long u v A cap L.length w h hlen
  exact kept2_loop u v A cap L w hL (by omega) hu.1 hu.2 hv.1 hv.2
end Go.Proofs.Ytogplppamdbikaa
