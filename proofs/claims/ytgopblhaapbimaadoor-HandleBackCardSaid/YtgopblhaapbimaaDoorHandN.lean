/- A handle among the arguments, opened; the table of trailing zeros, as it is laid. -/
import Derived.Test.YtgopblhaapbimaaDoorArgs
import Derived.Test.YtgopblhaapbimaaDoorHandI
import Derived.Stop.LaidErr
import Derived.Lib.LaidTab
import Derived.Lib.TrailingZeros
namespace Go.Proofs.YtgopblhaapbimaaDoor
open Go.ChangeShapes Go.WideShapes Go.ChangeAt Go.WideMaps Go.WideElems Go.RowKit Go.Deep
section
variable {H : Type} {enc : TypeId × Value → H} {w : World} {base : Nat} {spare : Nat → Bool} {held : Bool} {fuel : Nat} {cs : List Value} {y : DataW H × List MemPlace}
theorem u64_wf {n : Int} (h : (Lit.int .u64 n).wf = true) : u64ok n := by
  have := bounds_u64 h
  unfold u64ok
  omega
theorem open_handle (h : DataW.trod enc Tryd.prog w base spare held fuel 23 cs = some y) : ∃ (k t i g : Int), cs = hv k t i g := by
  obtain ⟨hl, hf⟩ := open_cells Tryd.underlying23 (by kernel_rfl) (by kernel_rfl) h
  obtain ⟨v0, _, _, e0, t0⟩ := hf 0 _ rfl
  obtain ⟨v1, _, _, e1, t1⟩ := hf 1 _ rfl
  obtain ⟨v2, _, _, e2, t2⟩ := hf 2 _ rfl
  obtain ⟨v3, _, _, e3, t3⟩ := hf 3 _ rfl
  obtain ⟨n0, rfl, _⟩ := one_int Tryd.underlying3 t0
  obtain ⟨n1, rfl, _⟩ := one_int Tryd.underlying3 t1
  obtain ⟨n2, rfl, _⟩ := one_int Tryd.underlying3 t2
  obtain ⟨n3, rfl, _⟩ := one_int Tryd.underlying3 t3
  exact ⟨n0, n1, n2, n3, four_of hl e0 e1 e2 e3⟩
end
theorem agg_is {cs : Array Value} {k t i g : Int} (h : (Value.agg cs).cells.toList = hv k t i g) : Value.agg cs = hnd k t i g := agg_list h
def laidL : List (String × DataW Unit) := [("math/bits.deBruijn32tab", Rows.laid_math_bits_deBruijn32tab), ("math/bits.deBruijn64tab", Rows.laid_math_bits_deBruijn64tab), ("internal/strconv.uint64pow10", Rows.laid_internal_strconv_uint64pow10)]
theorem door_met (os : Os) (args : Array Value) : laidMetH Tryd.prog laidL ((World.doorLaid Tryd.prog 400 os).forCall (fun _ _ => 0) ⟨#[], args, []⟩).memory :=
  laidMetH_of_parts3 (fuel := 8) (laidMet_of_run' 8 (by kernel_rfl) (by kernel_rfl)) (by kernel_rfl) (by kernel_rfl)
/-- The table's numbers. -/
def tab64 : List Int := Lib.deBruijn64tab.map fun n : Nat => Int.ofNat n
theorem of_laid {W : World} (h : laidMetH Tryd.prog laidL W) : Tab W := by
  rw [MakeChecks.laidMetH_plain _ _ _ (by kernel_rfl)] at h
  have h3 : laidMet Tryd.prog [("math/bits.deBruijn64tab", Lib.tabData .u8 tab64), ("internal/strconv.uint64pow10", Rows.laid_internal_strconv_uint64pow10)] W := h.tail
  have h4 : Lib.TabIs Tryd.prog W "math/bits.deBruijn64tab" .u8 tab64 := Lib.tabIs_of_head (g := 3) (t := 80) (e := 5) (n := 64) (by kernel_rfl) (by kernel_rfl) Tryd.underlying80 Tryd.underlying5 (by kernel_rfl) (by kernel_rfl) h3
  exact h4.cell (g := 3) (by kernel_rfl) 15 (by decide)
end Go.Proofs.YtgopblhaapbimaaDoor
