/- FreeOnce, as a call, for whatever share and acts. -/
import Derived.Test.YtkboimheeieeeaaDoorFreeT
namespace Go.Proofs.YtkboimheeieeeaaDoor
open Go.RowKit

set_option maxRecDepth 100000 in
set_option maxHeartbeats 800000 in
theorem once_not (x : Sh) (A : Option Addr) (cap m : Nat) (w : World) (hl : Lay w) (hx : x.may = false ∨ 100 < m) (hm : m ≤ 9223372036854775807) :
    Calls Tryd.prog 4 #[.agg #[.int .i64 x.a, .int .i64 x.b, .int .i64 x.c, .int .i64 x.q, .int .i64 x.s], .slice A m cap] w fun e w' => e = .returned (.bool true) ∧ Below w.heap.size w w' := by
  have hB0 : Below w.heap.size w (w.alloc (.cells #[.int .i64 x.a, .int .i64 x.b, .int .i64 x.c, .int .i64 x.q, .int .i64 x.s] 24)) := (Below.refl _ _).alloc (Nat.le_refl _) _
  have HL1 := Lib.hid (hl.below hB0)
  have HB0 := Lib.hid hB0
  clear hl hB0
  cases hmay : x.may
  · have hmb : mayB x.a x.b x.c x.q x.s = false := hmay
    clear hx
    go_enter Tryd.func4, Tryd.ntmps4
    go_wp2_with fail
    refine (share_any _ _ _ _ _ _).mono ?_
    rw [hmb]
    rintro e w2 ⟨rfl, hb2⟩
    have HL3 := Lib.hid (HL1.out.below hb2)
    have HB2 := Lib.hid (below_more HB0.out hb2)
    clear hb2 hmb
    go_wp2_with (go_at_call 5; refine (alive_any _ HL3.out).mono ?_; rintro e v5 ⟨rfl, b5⟩)
    go_ret
    exact ⟨rfl, below_more HB2.out b5⟩
  · have hmb : mayB x.a x.b x.c x.q x.s = true := hmay
    have h99 : 100 < m := by
      rcases hx with h | h
      · rw [hmay] at h; cases h
      · exact h
    have h100 : decide (100 < m) = true := by simpa using h99
    have h101 : (100 : Int) < (m : Int) := by omega
    clear hx
    go_enter Tryd.func4, Tryd.ntmps4
    go_wp2_with fail
    refine (share_any _ _ _ _ _ _).mono ?_
    rw [hmb]
    rintro e w2 ⟨rfl, hb2⟩
    have HL3 := Lib.hid (HL1.out.below hb2)
    have HB2 := Lib.hid (below_more HB0.out hb2)
    clear hb2 hmb
    go_wp2_with (go_at_call 5; refine (alive_any _ HL3.out).mono ?_; rintro e v5 ⟨rfl, b5⟩)
    go_ret
    exact ⟨rfl, below_more HB2.out b5⟩
theorem once_any (x : Sh) (A : Option Addr) (cap : Nat) (L : List Act6) (w : World) (hl : Lay w) (hL : Act6Reads w A L) (hlen : L.length ≤ 9223372036854775807) :
    Calls Tryd.prog 4 #[.agg #[.int .i64 x.a, .int .i64 x.b, .int .i64 x.c, .int .i64 x.q, .int .i64 x.s], .slice A L.length cap] w fun e w' => e = .returned (.bool true) ∧ Below w.heap.size w w' := by
  by_cases h : 100 < L.length
  · exact once_not x A cap L.length w hl (Or.inr h) hlen
  cases hm : x.may
  · exact once_not x A cap L.length w hl (Or.inl hm) hlen
  · exact once_loop x A cap L w hl hL (by omega) hm
end Go.Proofs.YtkboimheeieeeaaDoor
