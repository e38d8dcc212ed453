/- CellsFresh: all cases. -/
import Derived.Test.YtplneoapcadlnaaDoorFreshB
namespace Go.Proofs.YtplneoapcadlnaaDoor
open Go.RowKit
attribute [local go_sem ↓] Go.wp_at_zero Go.wp_at_succ

set_option maxRecDepth 100000 in
set_option maxHeartbeats 800000 in
theorem fresh_not (x : Sh) (o : Int) (A : Option Addr) (cap m : Nat) (w : World) (hl : Lay w) (h : x.may = false ∨ x.may = true ∧ 100 < m) :
    Calls Tryd.prog 4 #[shV x, .slice A m cap, .int .u8 o] w fun e w' => e = .returned (.bool true) ∧ Below w.heap.size w w' := by
  have HB := Lib.hid (w8_below x w)
  have HL := Lib.hid (hl.below (w8_below x w))
  have hW0 : W8 x w = w.alloc (.cells #[.int .i64 x.a, .int .i64 x.b, .int .i64 x.c, .int .i64 x.q, .int .i64 x.s] 24) := rfl
  generalize W8 x w = W at *
  have HW0 := Lib.hid hW0
  clear hl
  unfold shV
  rcases h with hm | ⟨hm, hlen⟩
  · go_enter Tryd.func4, Tryd.ntmps4
    go_wp2_with fail
    rw [← HW0.out]
    refine (share_call hm W).mono ?_
    rintro e w1 ⟨rfl, hb1⟩
    have HL1 := Lib.hid (HL.out.below hb1)
    have HB1 := Lib.hid (below_more HB.out hb1)
    clear hb1
    go_wp2_with (go_at_call 5; refine (alive7_any _ HL1.out).mono ?_; rintro e w2 ⟨rfl, hb2⟩)
    go_ret
    exact ⟨rfl, below_more HB1.out hb2⟩
  · have hd : decide (100 < m) = true := by simpa using hlen
    have hd2 : (100 : Int) < m := by omega
    go_enter Tryd.func4, Tryd.ntmps4
    go_wp2_with fail
    rw [← HW0.out]
    refine (share_call hm W).mono ?_
    rintro e w1 ⟨rfl, hb1⟩
    have HL1 := Lib.hid (HL.out.below hb1)
    have HB1 := Lib.hid (below_more HB.out hb1)
    clear hb1
    go_wp2_with (go_at_call 5; refine (alive7_any _ HL1.out).mono ?_; rintro e w2 ⟨rfl, hb2⟩)
    go_ret
    exact ⟨rfl, below_more HB1.out hb2⟩
theorem fresh_any (x : Sh) (o : Int) (A : Option Addr) (cap : Nat) (L : List Act7) (w : World) (hl : Lay w) (hL : Act7Reads w A L) (ho : 0 ≤ o ∧ o ≤ 255) :
    Calls Tryd.prog 4 #[shV x, .slice A L.length cap, .int .u8 o] w fun e w' => e = .returned (.bool true) ∧ Below w.heap.size w w' := by
  cases hm : x.may
  · exact fresh_not x o A cap L.length w hl (Or.inl hm)
  · by_cases h1 : 100 < L.length
    · exact fresh_not x o A cap L.length w hl (Or.inr ⟨hm, h1⟩)
    · obtain ⟨n, rfl⟩ : ∃ n : Nat, o = n := ⟨o.toNat, by omega⟩
      exact fresh_loop x n A cap L w hl hL (by omega) (by omega) hm
end Go.Proofs.YtplneoapcadlnaaDoor
