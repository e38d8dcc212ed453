/- Rows of ints that are owned: out of a contract's word; two lists that are one. -/
import Derived.Test.YtdconkggghmgkaaRow
namespace Go.Proofs.Ytdconkggghmgkaa
open Go.RowKit

theorem Own.of {w : World} {base : Nat} {u : Value} {L : List Int} (h : w.ownsRow base 3 1 u L.length (vals L)) : Own w u L ∧ ∀ g, u.ownBlock = some g → base ≤ g := by
  refine ⟨⟨h.1, ?_⟩, fun g hg => (h.lt g hg).1⟩
  rcases h.2 with hn | ⟨g, cap, cur, hv, _, rest⟩
  · exact .inl hn
  · exact .inr ⟨g, cap, cur, hv, Nat.zero_le _, rest⟩
theorem Own.below {w w' : World} {u : Value} {L : List Int} (h : Own w u L) (hb : Below w.heap.size w w') : Own w' u L :=
  h.only (Only.of_below (S := []) hb) (fun _ _ hm => by simp at hm)
/-- A row is no map. -/
theorem Own.ne_map {w : World} {u : Value} {L : List Int} {m : Nat} {es : Array MapEntry} {c : Nat} (h : Own w u L) (hm : w.heap[m]? = some (.map es c)) : ∀ g, u.ownBlock = some g → g ∉ [m] := by
  intro g hg hmem
  simp only [List.mem_singleton] at hmem
  subst hmem
  rcases h.2 with ⟨rfl, _⟩ | ⟨g', cap, cur, rfl, _, hb, _⟩
  · simp [Value.ownBlock] at hg
  · have : g' = g := by simpa [Value.ownBlock] using hg
    subst this
    rw [hm] at hb
    cases hb

end Go.Proofs.Ytdconkggghmgkaa
