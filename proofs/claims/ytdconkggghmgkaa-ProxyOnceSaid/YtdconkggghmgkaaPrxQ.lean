/- Acts on a table among the arguments, opened. -/
import Derived.Test.YtdconkggghmgkaaPrxH
import Derived.Test.YtdconkggghmgkaaArgs
namespace Go.Proofs.Ytdconkggghmgkaa
namespace Px
open Go.ChangeShapes Go.WideShapes Go.ChangeAt Go.WideMaps Go.WideElems Go.RowKit Go.Deep

def Pact.cls (x : Pact) : List Value := [.int .u8 x.k, .int .i64 x.a, .int .i64 x.b]
theorem PactReads.of {w : World} {A : Option Addr} {L : List Pact} (h : Reads Pact.cls 3 w A L) (ho : ∀ x ∈ L, x.ok) : PactReads w A L := by
  intro k x hx
  obtain ⟨b, off, hA, hlt, hc⟩ := h k x hx
  exact ⟨ho x (List.mem_of_getElem? hx), b, off, hA, hlt, hc 0 _ rfl, hc 1 _ rfl, hc 2 _ rfl⟩
theorem open_pact {H : Type} {enc : TypeId × Value → H} {w : World} {base : Nat} {spare : Nat → Bool} {held : Bool} {fuel : Nat} {cs : List Value} {y : DataW H × List MemPlace}
    (h : DataW.trod enc Try.prog w base spare held fuel 33 cs = some y) : ∃ x : Pact, x.ok ∧ cs = x.cls := by
  obtain ⟨hl, hf⟩ := open_cells Try.underlying33 (by kernel_rfl) (by kernel_rfl) h
  obtain ⟨v0, _, _, e0, t0⟩ := hf 0 _ rfl
  obtain ⟨v1, _, _, e1, t1⟩ := hf 1 _ rfl
  obtain ⟨v2, _, _, e2, t2⟩ := hf 2 _ rfl
  obtain ⟨n0, rfl, b0⟩ := one_int Try.underlying5 t0
  obtain ⟨n1, rfl, b1⟩ := one_int Try.underlying3 t1
  obtain ⟨n2, rfl, b2⟩ := one_int Try.underlying3 t2
  exact ⟨⟨n0, n1, n2⟩, ⟨(bounds_u8 b0).1, (bounds_u8 b0).2, bounds_i64 b1, bounds_i64 b2⟩, three_of hl e0 e1 e2⟩
theorem open_acts15 {H : Type} {enc : TypeId × Value → H} {w : World} {base : Nat} {held : Bool} {fuel : Nat} {cs : List Value} {y : DataW H × List MemPlace}
    (h : DataW.trod enc Try.prog w base (fun _ => true) held fuel 22 cs = some y) : ∃ (A : Option Addr) (cap : Nat) (L : List Pact), cs = [.slice A L.length cap] ∧ PactReads w A L := by
  obtain ⟨A, cap, L, h1, _, h3, h4⟩ := open_list Pact.cls Pact.ok 3 Try.underlying22 (by kernel_rfl) (by omega) (fun n cs y ht => open_pact ht) h
  exact ⟨A, cap, L, h1, PactReads.of h4 h3⟩
end Px
end Go.Proofs.Ytdconkggghmgkaa
