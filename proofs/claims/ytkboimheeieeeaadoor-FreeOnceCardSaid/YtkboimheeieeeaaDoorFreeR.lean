/- A share and acts among the arguments, opened. -/
import Derived.Test.YtkboimheeieeeaaDoorConfL
import Derived.Test.YtkboimheeieeeaaDoorArgs
import Derived.Test.YtkboimheeieeeaaDoorFreeP
namespace Go.Proofs.YtkboimheeieeeaaDoor
open Go.ChangeShapes Go.WideShapes Go.ChangeAt Go.WideMaps Go.WideElems Go.RowKit Go.Deep

def Act6.cells (x : Act6) : List Value := [.int .u8 x.k, .int .i64 x.n]
theorem Act6Reads.of {w : World} {A : Option Addr} {L : List Act6} (h : Reads Act6.cells 2 w A L) (ho : ∀ x ∈ L, x.ok) : Act6Reads w A L := by
  intro k x hx
  obtain ⟨b, off, hA, hlt, hc⟩ := h k x hx
  exact ⟨ho x (List.mem_of_getElem? hx), b, off, hA, hlt, hc 0 _ rfl, hc 1 _ rfl⟩
section
variable {H : Type} {enc : TypeId × Value → H} {w : World} {base : Nat} {held : Bool} {fuel : Nat} {cs : List Value} {y : DataW H × List MemPlace}
theorem open_act6 {spare : Nat → Bool} (h : DataW.trod enc Tryd.prog w base spare held fuel 35 cs = some y) : ∃ x : Act6, x.ok ∧ cs = x.cells := by
  obtain ⟨hl, hf⟩ := open_cells Tryd.underlying35 (by kernel_rfl) (by kernel_rfl) h
  obtain ⟨v0, _, _, e0, t0⟩ := hf 0 _ rfl
  obtain ⟨v1, _, _, e1, t1⟩ := hf 1 _ rfl
  obtain ⟨n0, rfl, b0⟩ := one_int Tryd.underlying5 t0
  obtain ⟨n1, rfl, b1⟩ := one_int Tryd.underlying3 t1
  exact ⟨⟨n0, n1⟩, ⟨(bounds_u8 b0).1, (bounds_u8 b0).2, bounds_i64 b1⟩, two_of hl e0 e1⟩
theorem open_acts6 (h : DataW.trod enc Tryd.prog w base (fun _ => true) held fuel 25 cs = some y) : ∃ (A : Option Addr) (cap : Nat) (L : List Act6), cs = [.slice A L.length cap] ∧ L.length ≤ 9223372036854775807 ∧ Act6Reads w A L := by
  obtain ⟨A, cap, L, h1, h2, h3, h4⟩ := open_list Act6.cells Act6.ok 2 Tryd.underlying25 (by kernel_rfl) (by omega) (fun n cs y ht => open_act6 ht) h
  exact ⟨A, cap, L, h1, h2, Act6Reads.of h4 h3⟩
end
end Go.Proofs.YtkboimheeieeeaaDoor
