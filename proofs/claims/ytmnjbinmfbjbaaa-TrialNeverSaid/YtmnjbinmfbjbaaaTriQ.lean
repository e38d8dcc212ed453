/- Bytes among the arguments, opened. -/
import Derived.Test.YtmnjbinmfbjbaaaTriO
import Derived.Test.YtmnjbinmfbjbaaaGraQ
namespace Go.Proofs.Ytmnjbinmfbjbaaa
namespace Tr
open Go.ChangeShapes Go.WideShapes Go.ChangeAt Go.WideMaps Go.WideElems Go.RowKit Go.Deep

section
variable {H : Type} {enc : TypeId × Value → H} {w : World} {held : Bool} {fuel : Nat} {cs : List Value} {y : DataW H × List MemPlace}
theorem open_bytes (h : DataW.trod enc Try.prog w 0 (fun _ => true) held fuel 35 cs = some y) : ∃ (L : List Int) (A : Option Addr) (cap : Nat), cs = [.slice A L.length cap] ∧ Rb w (.slice A L.length cap) L := by
  obtain ⟨A, cap, L, rfl, h1, h2, h3⟩ := open_list (fun n => [.int .u8 n]) (fun x => 0 ≤ x ∧ x ≤ 255) 1 Try.underlying35 (by kernel_rfl) (by omega) (fun n cs y ht => by
    obtain ⟨m, e, _, hw⟩ := DataW.trod_int Try.underlying5 ht
    have := bounds_u8 hw
    exact ⟨m, by omega, e⟩) h
  refine ⟨L, A, cap, rfl, h2, A, cap, rfl, ?_, ?_, fun j x hx => ?_⟩
  · rcases open_slice Try.underlying35 h with ⟨e, _⟩ | ⟨a, len, cap', m, n, D, Pl, e, _, hlc, hcm, _⟩
    · simp only [List.cons.injEq, Value.slice.injEq, and_true] at e
      omega
    · simp only [List.cons.injEq, Value.slice.injEq, and_true] at e
      omega
  · rcases open_slice Try.underlying35 h with ⟨e, _⟩ | ⟨a, len, cap', m, n, D, Pl, e, _, hlc, hcm, _⟩
    · simp only [List.cons.injEq, Value.slice.injEq, and_true] at e
      omega
    · simp only [List.cons.injEq, Value.slice.injEq, and_true] at e
      unfold maxLen at hcm
      omega
  · obtain ⟨b, o, e, hb, hc⟩ := h3 j x hx
    have := hc 0 _ rfl
    rw [Nat.mul_one, Nat.add_zero] at this
    exact ⟨b, o, e, hb, this⟩
end
end Tr
end Go.Proofs.Ytmnjbinmfbjbaaa
