/- A value among the arguments, opened; the table of powers of ten, as it is laid. -/
import Derived.Test.YtbdpjmamebeonaaDoorArgs
import Derived.Test.YtbdpjmamebeonaaDoorWordF
import Derived.Stop.LaidErr
import Derived.Lib.LaidTab
namespace Go.Proofs.YtbdpjmamebeonaaDoor
open Go.ChangeShapes Go.WideShapes Go.ChangeAt Go.WideMaps Go.WideElems Go.RowKit Go.Deep
section
variable {H : Type} {enc : TypeId × Value → H} {w : World} {base : Nat} {spare : Nat → Bool} {held : Bool} {fuel : Nat} {cs : List Value} {y : DataW H × List MemPlace}
theorem u64_wf {n : Int} (h : (Lit.int .u64 n).wf = true) : u64ok n := by
  have := bounds_u64 h
  unfold u64ok
  omega
theorem open_value (h : DataW.trod enc Tryd.prog w base spare held fuel 25 cs = some y) : ∃ (k n : Int), cs = [.int .i64 k, .int .u64 n] ∧ u64ok n := by
  obtain ⟨hl, hf⟩ := open_cells Tryd.underlying25 (by kernel_rfl) (by kernel_rfl) h
  obtain ⟨v0, _, _, e0, t0⟩ := hf 0 _ rfl
  obtain ⟨v1, _, _, e1, t1⟩ := hf 1 _ rfl
  obtain ⟨n0, rfl, _⟩ := one_int Tryd.underlying22 t0
  obtain ⟨n1, rfl, hw⟩ := one_int Tryd.underlying23 t1
  exact ⟨n0, n1, two_of hl e0 e1, u64_wf hw⟩
end
theorem agg_is {cs : Array Value} {l : List Value} (h : (Value.agg cs).cells.toList = l) : Value.agg cs = .agg l.toArray := agg_list h
def laidL : List (String × DataW Unit) := [("math/bits.deBruijn32tab", Rows.laid_math_bits_deBruijn32tab), ("math/bits.deBruijn64tab", Rows.laid_math_bits_deBruijn64tab), ("internal/strconv.uint64pow10", Rows.laid_internal_strconv_uint64pow10)]
theorem door_met (os : Os) (args : Array Value) : laidMetH Tryd.prog laidL ((World.doorLaid Tryd.prog 400 os).forCall (fun _ _ => 0) ⟨#[], args, []⟩).memory :=
  laidMetH_of_parts3 (fuel := 8) (laidMet_of_run' 8 (by kernel_rfl) (by kernel_rfl)) (by kernel_rfl) (by kernel_rfl)
theorem of_laid {W : World} (h : laidMetH Tryd.prog laidL W) : Tab W := by
  rw [MakeChecks.laidMetH_plain _ _ _ (by kernel_rfl)] at h
  have h3 : laidMet Tryd.prog [("internal/strconv.uint64pow10", Lib.tabData .u64 Lib.pow10Tab)] W := h.tail.tail
  exact Lib.tabIs_of_head (g := 0) (t := 53) (e := 23) (n := 20) (by kernel_rfl) (by kernel_rfl) Tryd.underlying53 Tryd.underlying23 (by kernel_rfl) (by kernel_rfl) h3
end Go.Proofs.YtbdpjmamebeonaaDoor
