/- QueuePlays, as a call, for whatever number of acts; acts among the arguments opened. -/
import Derived.Test.YtmdhcokbbhpkmaaQueI
import Derived.Test.YtmdhcokbbhpkmaaArgs
namespace Go.Proofs.Ytmdhcokbbhpkmaa
namespace Qu
open Go.ChangeShapes Go.WideShapes Go.ChangeAt Go.WideMaps Go.WideElems Go.RowKit Go.Deep

set_option maxRecDepth 100000 in
set_option maxHeartbeats 400000 in
theorem plays9_long (A : Option Addr) (cap : Nat) (m : Nat) (w : World) (h : 200 < m) (hm : m ≤ 9223372036854775807) :
    Calls Try.prog 3 #[.slice A m cap] w fun e w' => e = .returned (.bool true) ∧ Below w.heap.size w w' := by
  have h' : decide (200 < m) = true := by simpa using h
  go_enter Try.func3, Try.ntmps3
  go_wp2_with (go_at_call 5; refine (alive9_any _).mono ?_; rintro e v5 ⟨rfl, b5⟩)
  go_ret
  exact ⟨rfl, b5⟩
theorem plays9_any (A : Option Addr) (cap : Nat) (L : List Act9) (w : World) (hL : ActReads w A L) (hlen : L.length ≤ 9223372036854775807) :
    Calls Try.prog 3 #[.slice A L.length cap] w fun e w' => e = .returned (.bool true) ∧ Below w.heap.size w w' := by
  by_cases h : 200 < L.length
  · exact plays9_long A cap L.length w h hlen
  · exact plays9_loop A cap L w hL (by omega)

def Act9.cells (x : Act9) : List Value := [.int .u8 x.k, .int .i64 x.c]
theorem ActReads.of {w : World} {A : Option Addr} {L : List Act9} (h : Reads Act9.cells 2 w A L) (ho : ∀ x ∈ L, x.ok) : ActReads w A L := by
  intro k x hx
  obtain ⟨b, off, hA, hlt, hc⟩ := h k x hx
  exact ⟨ho x (List.mem_of_getElem? hx), b, off, hA, hlt, hc 0 _ rfl, hc 1 _ rfl⟩
theorem open_act9 {H : Type} {enc : TypeId × Value → H} {w : World} {base : Nat} {spare : Nat → Bool} {held : Bool} {fuel : Nat} {cs : List Value} {y : DataW H × List MemPlace}
    (h : DataW.trod enc Try.prog w base spare held fuel 28 cs = some y) : ∃ x : Act9, x.ok ∧ cs = x.cells := by
  obtain ⟨hl, hf⟩ := open_cells Try.underlying28 (by kernel_rfl) (by kernel_rfl) h
  obtain ⟨v0, _, _, e0, t0⟩ := hf 0 _ rfl
  obtain ⟨v1, _, _, e1, t1⟩ := hf 1 _ rfl
  obtain ⟨n0, rfl, b0⟩ := one_int Try.underlying5 t0
  obtain ⟨n1, rfl, b1⟩ := one_int Try.underlying3 t1
  exact ⟨⟨n0, n1⟩, ⟨(bounds_u8 b0).1, (bounds_u8 b0).2, bounds_i64 b1⟩, two_of hl e0 e1⟩
theorem open_acts9 {H : Type} {enc : TypeId × Value → H} {w : World} {base : Nat} {held : Bool} {fuel : Nat} {cs : List Value} {y : DataW H × List MemPlace}
    (h : DataW.trod enc Try.prog w base (fun _ => true) held fuel 22 cs = some y) : ∃ (A : Option Addr) (cap : Nat) (L : List Act9), cs = [.slice A L.length cap] ∧ L.length ≤ 9223372036854775807 ∧ ActReads w A L := by
  obtain ⟨A, cap, L, h1, h2, h3, h4⟩ := open_list Act9.cells Act9.ok 2 Try.underlying22 (by kernel_rfl) (by omega) (fun n cs y ht => open_act9 ht) h
  exact ⟨A, cap, L, h1, h2, ActReads.of h4 h3⟩
end Qu
end Go.Proofs.Ytmdhcokbbhpkmaa
