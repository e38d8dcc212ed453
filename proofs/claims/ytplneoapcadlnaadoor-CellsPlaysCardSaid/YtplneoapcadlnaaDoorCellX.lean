/- CellsPlays: all cases. -/
import Derived.Test.YtplneoapcadlnaaDoorCellW
namespace Go.Proofs.YtplneoapcadlnaaDoor
open Go.RowKit

theorem plays7_any (x : Sh) (size base : Int) (A : Option Addr) (cap : Nat) (L : List Act7) (w : World) (hl : Lay w) (hL : Act7Reads w A L) (hlen : L.length ≤ 9223372036854775807) (hb : i64ok base) :
    Calls Tryd.prog 3 #[shV x, .agg #[.int .i64 size, .int .i64 base], .slice A L.length cap] w fun e w' => e = .returned (.bool true) ∧ Below w.heap.size w w' := by
  by_cases h1 : 100 < L.length
  · exact plays7_big x size base A cap L.length w hl (Or.inl h1) hlen
  · by_cases h2 : size < 0 ∨ 0 ≤ size ∧ 2000 < size
    · exact plays7_big x size base A cap L.length w hl (Or.inr ⟨by omega, h2⟩) hlen
    · obtain ⟨n, rfl⟩ : ∃ n : Nat, size = n := ⟨size.toNat, by omega⟩
      cases hm : x.may
      · exact plays7_not x base A cap L.length w n hl (by omega) (by omega) hm
      · by_cases h3 : base < 0 ∨ 0 ≤ base ∧ ((n : Int) < base ∨ base ≤ n ∧ (n : Int) - base < x.wd)
        · exact plays7_out x base A cap L.length w n hl (by omega) (by omega) hm hb h3
        · obtain ⟨bs, rfl⟩ : ∃ bs : Nat, base = bs := ⟨base.toNat, by omega⟩
          exact plays7_loop x n bs A cap L w hl hL (by omega) (by omega) hm (by omega)
end Go.Proofs.YtplneoapcadlnaaDoor
