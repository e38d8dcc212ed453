/- Acts on an account among the arguments, opened. -/
import Derived.Test.YtochablpchcgfaaAccA
import Derived.Test.YtochablpchcgfaaArgs
namespace Go.Proofs.Ytochablpchcgfaa
namespace Ac
open Go.ChangeShapes Go.WideShapes Go.ChangeAt Go.WideMaps Go.WideElems Go.RowKit Go.Deep

structure Act12 where
  k : Int
  n : Int
def Act12.ok (x : Act12) : Prop := 0 ≤ x.k ∧ x.k ≤ 255 ∧ i64ok x.n
def ActAt (w : World) (b o : Nat) (x : Act12) : Prop := w.cell? ⟨b, o, none⟩ = some (.int .u8 x.k) ∧ w.cell? ⟨b, o + 1, none⟩ = some (.int .i64 x.n)
def ActReads (w : World) (A : Option Addr) (L : List Act12) : Prop := ∀ k x, L[k]? = some x → x.ok ∧ ∃ b off, A = some ⟨b, off, none⟩ ∧ b < w.heap.size ∧ ActAt w b (off + k * 2) x
theorem ActAt.keep {w w' : World} {b o : Nat} {x : Act12} (h : ActAt w b o x) (hlt : b < w.heap.size) (hb : Below w.heap.size w w') : ActAt w' b o x :=
  ⟨(hb.cell (p := ⟨b, _, none⟩) hlt).trans h.1, (hb.cell (p := ⟨b, _, none⟩) hlt).trans h.2⟩

def Act12.cells (x : Act12) : List Value := [.int .u8 x.k, .int .i64 x.n]
theorem ActReads.of {w : World} {A : Option Addr} {L : List Act12} (h : Reads Act12.cells 2 w A L) (ho : ∀ x ∈ L, x.ok) : ActReads w A L := by
  intro k x hx
  obtain ⟨b, off, hA, hlt, hc⟩ := h k x hx
  exact ⟨ho x (List.mem_of_getElem? hx), b, off, hA, hlt, hc 0 _ rfl, hc 1 _ rfl⟩
theorem open_act12 {H : Type} {enc : TypeId × Value → H} {w : World} {base : Nat} {spare : Nat → Bool} {held : Bool} {fuel : Nat} {cs : List Value} {y : DataW H × List MemPlace}
    (h : DataW.trod enc Try.prog w base spare held fuel 29 cs = some y) : ∃ x : Act12, x.ok ∧ cs = x.cells := by
  obtain ⟨hl, hf⟩ := open_cells Try.underlying29 (by kernel_rfl) (by kernel_rfl) h
  obtain ⟨v0, _, _, e0, t0⟩ := hf 0 _ rfl
  obtain ⟨v1, _, _, e1, t1⟩ := hf 1 _ rfl
  obtain ⟨n0, rfl, b0⟩ := one_int Try.underlying5 t0
  obtain ⟨n1, rfl, b1⟩ := one_int Try.underlying3 t1
  exact ⟨⟨n0, n1⟩, ⟨(bounds_u8 b0).1, (bounds_u8 b0).2, bounds_i64 b1⟩, two_of hl e0 e1⟩
theorem open_acts12 {H : Type} {enc : TypeId × Value → H} {w : World} {base : Nat} {held : Bool} {fuel : Nat} {cs : List Value} {y : DataW H × List MemPlace}
    (h : DataW.trod enc Try.prog w base (fun _ => true) held fuel 22 cs = some y) : ∃ (A : Option Addr) (cap : Nat) (L : List Act12), cs = [.slice A L.length cap] ∧ L.length ≤ 9223372036854775807 ∧ ActReads w A L := by
  obtain ⟨A, cap, L, h1, h2, h3, h4⟩ := open_list Act12.cells Act12.ok 2 Try.underlying22 (by kernel_rfl) (by omega) (fun n cs y ht => open_act12 ht) h
  exact ⟨A, cap, L, h1, h2, ActReads.of h4 h3⟩
end Ac
end Go.Proofs.Ytochablpchcgfaa
