/- WordBack as a call. -/
import Derived.Test.YtbdpjmamebeonaaDoorWordJ
import Derived.Test.YtbdpjmamebeonaaDoorWordK
import Derived.Test.YtbdpjmamebeonaaDoorWordL
namespace Go.Proofs.YtbdpjmamebeonaaDoor
open Go.RowKit

theorem back_any (k n k' n' x : Int) (w : World) (hn : 0 ≤ n) (hn' : 0 ≤ n') (hx : u64ok x) (hT : Tab w) :
    Calls Tryd.prog 4 #[val k n, val k' n', .int .u64 x] w fun e w' => e = .returned (.bool true) ∧ Below w.heap.size w w' := by
  cases hr : rightB k n
  · exact back_no k n k' n' x w hn hx hT hr
  · cases hr' : rightB k' n'
    · exact back_yes_no k n k' n' x w hn hx hT hr hr'
    · exact back_yes_yes k n k' n' x w hn hn' hx hT hr hr'
end Go.Proofs.YtbdpjmamebeonaaDoor
