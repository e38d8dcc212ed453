/- A share and acts among the arguments, opened. -/
import Derived.Test.YtgbbaeojemihjaaGreatDoorLayTab
import Derived.Test.YtgbbaeojemihjaaGreatDoorLayBase
import Derived.Test.YtgbbaeojemihjaaGreatDoorLayLaw
namespace Go.Proofs.YtgbbaeojemihjaaGreatDoor
open Hp
open Go.ChangeShapes Go.WideShapes Go.ChangeAt Go.WideMaps Go.WideElems Go.RowKit Go.Deep

theorem Tryz.cU8 : Tryz.prog.cellsOf 5 = 1 := by kernel_rfl
theorem Tryz.cVal : Tryz.prog.cellsOf 41 = 2 := by kernel_rfl
theorem Tryz.cHact : Tryz.prog.cellsOf 43 = 5 := by kernel_rfl
theorem HactReads.of {w : World} {A : Option Addr} {L : List Hact} (h : Reads Hact.cells 5 w A L) (ho : ∀ x ∈ L, x.ok) : HactReads w A L := by
  intro k x hx
  obtain ⟨b, off, hA, hlt, hc⟩ := h k x hx
  exact ⟨ho x (List.mem_of_getElem? hx), b, off, hA, hlt, hc 0 _ rfl, hc 1 _ rfl, hc 2 _ rfl, hc 3 _ rfl, hc 4 _ rfl⟩
section
variable {H : Type} {enc : TypeId × Value → H} {w : World} {base : Nat} {held : Bool} {fuel : Nat} {cs : List Value} {y : DataW H × List MemPlace}
theorem open_value13 {spare : Nat → Bool} (h : DataW.trod enc Tryz.prog w base spare held fuel 41 cs = some y) : ∃ (k n : Int), cs = [.int .i64 k, .int .u64 n] ∧ i64ok k ∧ 0 ≤ n ∧ n ≤ 18446744073709551615 := by
  obtain ⟨hl, hf⟩ := open_cells Tryz.underlying41 (by kernel_rfl) (by kernel_rfl) h
  obtain ⟨v0, _, _, e0, t0⟩ := hf 0 _ rfl
  obtain ⟨v1, _, _, e1, t1⟩ := hf 1 _ rfl
  obtain ⟨n0, rfl, b0⟩ := one_int Tryz.underlying38 t0
  obtain ⟨n1, rfl, b1⟩ := one_int Tryz.underlying39 t1
  have := bounds_u64 b1
  exact ⟨n0, n1, two_of hl e0 e1, bounds_i64 b0, by omega, by omega⟩
set_option maxRecDepth 100000 in
theorem open_act13 {spare : Nat → Bool} (h : DataW.trod enc Tryz.prog w base spare held fuel 43 cs = some y) : ∃ x : Hact, x.ok ∧ cs = x.cells := by
  obtain ⟨xs, m, _, _, hl, hx, hf⟩ := DataW.trod_struct Tryz.underlying43 h
  rw [Tryz.cHact] at hl
  match cs, hl, xs, hx with
  | [c0, c1, c2, c3, c4], _, [x0, x1, x2, x3], _ =>
    have f0 := hf 0 _ rfl
    have f1 := hf 1 _ rfl
    have f2 := hf 2 _ rfl
    have f3 := hf 3 _ rfl
    change DataW.trod enc Tryz.prog w base spare held m 5 (([c0, c1, c2, c3, c4].drop 0).take (Tryz.prog.cellsOf 5)) = some x0 at f0
    change DataW.trod enc Tryz.prog w base spare held m 3 (([c0, c1, c2, c3, c4].drop 1).take (Tryz.prog.cellsOf 3)) = some x1 at f1
    change DataW.trod enc Tryz.prog w base spare held m 3 (([c0, c1, c2, c3, c4].drop 2).take (Tryz.prog.cellsOf 3)) = some x2 at f2
    change DataW.trod enc Tryz.prog w base spare held m 41 (([c0, c1, c2, c3, c4].drop 3).take (Tryz.prog.cellsOf 41)) = some x3 at f3
    rw [Tryz.cU8] at f0
    rw [Tryz.cInt] at f1 f2
    rw [Tryz.cVal] at f3
    obtain ⟨n0, e0, b0⟩ := one_int Tryz.underlying5 (show DataW.trod enc Tryz.prog w base spare held m 5 [c0] = some x0 from f0)
    obtain ⟨n1, e1, b1⟩ := open_int1 f1
    obtain ⟨n2, e2, b2⟩ := open_int1 f2
    obtain ⟨n3, n4, e3, b3, b4, b5⟩ := open_value13 f3
    simp at e1 e2 e3
    exact ⟨⟨n0, n1, n2, n3, n4⟩, ⟨(bounds_u8 b0).1, (bounds_u8 b0).2, b1, b2, b3, b4, b5⟩, by simp [Hact.cells, e0, e1, e2, e3]⟩
end
end Go.Proofs.YtgbbaeojemihjaaGreatDoor
