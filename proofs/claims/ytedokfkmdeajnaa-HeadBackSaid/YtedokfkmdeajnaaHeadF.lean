/- A header among the arguments, opened. -/
import Derived.Test.YtedokfkmdeajnaaArgs
import Derived.Test.YtedokfkmdeajnaaHeadE
namespace Go.Proofs.Ytedokfkmdeajnaa
open Go.ChangeShapes Go.WideShapes Go.ChangeAt Go.WideMaps Go.WideElems Go.RowKit Go.Deep
section
variable {H : Type} {enc : TypeId × Value → H} {w : World} {base : Nat} {spare : Nat → Bool} {held : Bool} {fuel : Nat} {cs : List Value} {y : DataW H × List MemPlace}
theorem one_bool {t : TypeId} {v : Value} (ht : Try.prog.underlying t = some .bool) (h : DataW.trod enc Try.prog w base spare held fuel t [v] = some y) : ∃ b, v = .bool b := by
  obtain ⟨n, h1, _⟩ := DataW.trod_bool ht h
  exact ⟨n, by simpa using h1⟩
theorem open_header (h : DataW.trod enc Try.prog w base spare held fuel 23 cs = some y) : ∃ (g c : Int) (u : Bool), cs = [.int .i64 g, .int .i64 c, .bool u] := by
  obtain ⟨hl, hf⟩ := open_cells Try.underlying23 (by kernel_rfl) (by kernel_rfl) h
  obtain ⟨v0, _, _, e0, t0⟩ := hf 0 _ rfl
  obtain ⟨v1, _, _, e1, t1⟩ := hf 1 _ rfl
  obtain ⟨v2, _, _, e2, t2⟩ := hf 2 _ rfl
  obtain ⟨n0, rfl, _⟩ := one_int Try.underlying3 t0
  obtain ⟨n1, rfl, _⟩ := one_int Try.underlying3 t1
  obtain ⟨b, rfl⟩ := one_bool Try.underlying4 t2
  exact ⟨n0, n1, b, three_of hl e0 e1 e2⟩
end
theorem agg_is {cs : Array Value} {l : List Value} (h : (Value.agg cs).cells.toList = l) : Value.agg cs = .agg l.toArray := agg_list h
theorem u64_wf {n : Int} (h : (Lit.int .u64 n).wf = true) : u64ok n := by
  have := bounds_u64 h
  unfold u64ok
  omega
end Go.Proofs.Ytedokfkmdeajnaa
