/- ArenaPlays, as a call, for whatever number of words and acts; acts among the arguments opened. -/
import Derived.Test.YtogplppamdbikaaArenaG
import Derived.Test.YtogplppamdbikaaArgs
namespace Go.Proofs.Ytogplppamdbikaa
open Go.ChangeShapes Go.WideShapes Go.ChangeAt Go.WideMaps Go.WideElems Go.RowKit Go.Deep

set_option maxRecDepth 100000 in
set_option maxHeartbeats 400000 in
theorem plays2_long (n : Int) (A : Option Addr) (cap : Nat) (m : Nat) (w : World) (h : 100 < m) (hm : m ≤ 9223372036854775807) :
    Calls Try.prog 3 #[.int .i64 n, .slice A m cap] w fun e w' => e = .returned (.bool true) ∧ Below w.heap.size w w' := by
  have h' : decide (100 < m) = true := by simpa using h
  go_enter Try.func3, Try.ntmps3
  go_wp2_with (go_at_call 5; refine (alive2_any _).mono ?_; rintro e v5 ⟨rfl, b5⟩)
  go_ret
  exact ⟨rfl, b5⟩

set_option maxRecDepth 100000 in
set_option maxHeartbeats 400000 in
theorem plays2_wide (n : Int) (A : Option Addr) (cap : Nat) (m : Nat) (w : World) (h : m ≤ 100) (h1 : 2000 < n) (h2 : n ≤ 65536) :
    Calls Try.prog 3 #[.int .i64 n, .slice A m cap] w fun e w' => e = .returned (.bool true) ∧ Below w.heap.size w w' := by
  have h' : decide (100 < m) = false := by simp; omega
  go_enter Try.func3, Try.ntmps3
  go_wp2_with (go_at_call 5; refine (alive2_any _).mono ?_; rintro e v5 ⟨rfl, b5⟩)
  go_ret
  exact ⟨rfl, b5⟩

set_option maxRecDepth 100000 in
set_option maxHeartbeats 400000 in
theorem plays2_not (n : Int) (A : Option Addr) (cap : Nat) (m : Nat) (w : World) (h : m ≤ 100) (h1 : n < 0 ∨ 65536 < n) :
    Calls Try.prog 3 #[.int .i64 n, .slice A m cap] w fun e w' => e = .returned (.bool true) ∧ Below w.heap.size w w' := by
  have h' : decide (100 < m) = false := by simp; omega
  have HN := Lib.hid h1
  by_cases hn : n < 0
  all_goals
    have hz : n < 0 ∨ 65536 < n := h1
    clear h1
    go_enter Try.func3, Try.ntmps3
    go_wp2_with (first
      | (go_at_call 6; refine (new_no _ _ HN.out).mono ?_; rintro e w' ⟨rfl, rfl⟩)
      | (go_at_call 5; refine (alive2_any _).mono ?_; rintro e v5 ⟨rfl, b5⟩))
    go_ret
    exact ⟨rfl, b5⟩

theorem plays2_any (n : Int) (A : Option Addr) (cap : Nat) (L : List Act2) (w : World) (hL : ActReads w A L) (hlen : L.length ≤ 9223372036854775807) :
    Calls Try.prog 3 #[.int .i64 n, .slice A L.length cap] w fun e w' => e = .returned (.bool true) ∧ Below w.heap.size w w' := by
  by_cases h : 100 < L.length
  · exact plays2_long n A cap L.length w h hlen
  by_cases h1 : n < 0 ∨ 65536 < n
  · exact plays2_not n A cap L.length w (by omega) h1
  by_cases h2 : 2000 < n
  · exact plays2_wide n A cap L.length w (by omega) h2 (by omega)
  exact plays2_loop n A cap L w hL (by omega) (by omega) (by omega)

def Act2.cells (x : Act2) : List Value := [.int .u8 x.k, .int .i64 x.a, .int .i64 x.n, .int .u64 x.x]
theorem ActReads.of {w : World} {A : Option Addr} {L : List Act2} (h : Reads Act2.cells 4 w A L) (ho : ∀ x ∈ L, x.ok) : ActReads w A L := by
  intro k x hx
  obtain ⟨b, off, hA, hlt, hc⟩ := h k x hx
  exact ⟨ho x (List.mem_of_getElem? hx), b, off, hA, hlt, hc 0 _ rfl, hc 1 _ rfl, hc 2 _ rfl, hc 3 _ rfl⟩
theorem open_act2 {H : Type} {enc : TypeId × Value → H} {w : World} {base : Nat} {spare : Nat → Bool} {held : Bool} {fuel : Nat} {cs : List Value} {y : DataW H × List MemPlace}
    (h : DataW.trod enc Try.prog w base spare held fuel 32 cs = some y) : ∃ x : Act2, x.ok ∧ cs = x.cells := by
  obtain ⟨hl, hf⟩ := open_cells Try.underlying32 (by kernel_rfl) (by kernel_rfl) h
  obtain ⟨v0, _, _, e0, t0⟩ := hf 0 _ rfl
  obtain ⟨v1, _, _, e1, t1⟩ := hf 1 _ rfl
  obtain ⟨v2, _, _, e2, t2⟩ := hf 2 _ rfl
  obtain ⟨v3, _, _, e3, t3⟩ := hf 3 _ rfl
  obtain ⟨n0, rfl, b0⟩ := one_int Try.underlying5 t0
  obtain ⟨n1, rfl, b1⟩ := one_int Try.underlying3 t1
  obtain ⟨n2, rfl, b2⟩ := one_int Try.underlying3 t2
  obtain ⟨n3, rfl, _⟩ := one_int Try.underlying30 t3
  exact ⟨⟨n0, n1, n2, n3⟩, ⟨(bounds_u8 b0).1, (bounds_u8 b0).2, bounds_i64 b1, bounds_i64 b2⟩, four_of hl e0 e1 e2 e3⟩
theorem open_acts2 {H : Type} {enc : TypeId × Value → H} {w : World} {base : Nat} {held : Bool} {fuel : Nat} {cs : List Value} {y : DataW H × List MemPlace}
    (h : DataW.trod enc Try.prog w base (fun _ => true) held fuel 22 cs = some y) : ∃ (A : Option Addr) (cap : Nat) (L : List Act2), cs = [.slice A L.length cap] ∧ L.length ≤ 9223372036854775807 ∧ ActReads w A L := by
  obtain ⟨A, cap, L, h1, h2, h3, h4⟩ := open_list Act2.cells Act2.ok 4 Try.underlying22 (by kernel_rfl) (by omega) (fun n cs y ht => open_act2 ht) h
  exact ⟨A, cap, L, h1, h2, ActReads.of h4 h3⟩
end Go.Proofs.Ytogplppamdbikaa
