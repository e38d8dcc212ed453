/- Rows of ints that are owned: out of a contract's word; two lists that are one. -/
import Derived.Test.YtmnjbinmfbjbaaaRow
namespace Go.Proofs.Ytmnjbinmfbjbaaa
open Go.RowKit

theorem Own.of {w : World} {base : Nat} {u : Value} {L : List Int} (h : w.ownsRow base 3 1 u L.length (vals L)) : Own w u L ∧ ∀ g, u.ownBlock = some g → base ≤ g := by
  refine ⟨⟨h.1, ?_⟩, fun g hg => (h.lt g hg).1⟩
  rcases h.2 with hn | ⟨g, cap, cur, hv, _, rest⟩
  · exact .inl hn
  · exact .inr ⟨g, cap, cur, hv, Nat.zero_le _, rest⟩
theorem Own.below {w w' : World} {u : Value} {L : List Int} (h : Own w u L) (hb : Below w.heap.size w w') : Own w' u L :=
  h.only (Only.of_below (S := []) hb) (fun _ _ hm => by simp at hm)
/-- A row is no map. -/
theorem Own.ne_map {w : World} {u : Value} {L : List Int} {m : Nat} {es : Array MapEntry} {c : Nat} (h : Own w u L) (hm : w.heap[m]? = some (.map es c)) : ∀ g, u.ownBlock = some g → g ∉ [m] := by
  intro g hg hmem
  simp only [List.mem_singleton] at hmem
  subst hmem
  rcases h.2 with ⟨rfl, _⟩ | ⟨g', cap, cur, rfl, _, hb, _⟩
  · simp [Value.ownBlock] at hg
  · have : g' = g := by simpa [Value.ownBlock] using hg
    subst this
    rw [hm] at hb
    cases hb

set_option maxRecDepth 100000 in
set_option maxHeartbeats 800000 in
theorem ints_any (L : List Int) (hL : L.length ≤ 1000) (w : World) (u y : Value) (hu : Own w u L) (hy : Own w y L) :
    Calls Try.prog 7 #[u, y] w fun e w' => e = .returned (.bool true) ∧ Below w.heap.size w w' := by
  obtain ⟨A, cap, rfl, _, hc1, hc2, ha⟩ := hu.form
  obtain ⟨B, cap', rfl, _, hd1, hd2, hb⟩ := hy.form
  have HA := Lib.hid ha
  have HB := Lib.hid hb
  generalize hn : L.length = n at *
  have HN := Lib.hid hn
  clear hu hy ha hb hn
  go_enter Try.func7, Try.ntmps7
  go_wp2_with fail
  go_loopw [5] (fun i wr => ∃ j : Nat, j ≤ n ∧ i = .int .i64 j ∧ Below w.heap.size w wr) (fun i _ => n - (intOf i).toNat)
  case atStart => exact ⟨0, by omega, rfl, Below.refl _ _⟩
  case round =>
    obtain ⟨j, hj, rfl, hbr⟩ := hrel
    by_cases hlt : j < n
    · obtain ⟨z, hz⟩ : ∃ z, L[j]? = some z := ⟨_, List.getElem?_eq_getElem (by have := HN.out; omega)⟩
      obtain ⟨g, rfl, hg⟩ := HA.out j z hz
      obtain ⟨g', rfl, hg'⟩ := HB.out j z hz
      have c1 : wr.cell? ⟨g, j, none⟩ = some (.int .i64 z) := (hbr.cell (p := ⟨g, j, none⟩) (World.block_lt_of_cell? w ⟨g, j, none⟩ hg)).trans hg
      have c2 : wr.cell? ⟨g', j, none⟩ = some (.int .i64 z) := (hbr.cell (p := ⟨g', j, none⟩) (World.block_lt_of_cell? w ⟨g', j, none⟩ hg')).trans hg'
      clear hz hg hg'
      go_wp2_with fail
      go_quiet (fail)
      go_wp2_with fail
      go_roundw
      case rel => exact ⟨j + 1, by omega, by go_num, by first | exact hbr | exact below_drewN hbr _⟩
      case measure => simp [intOf]; omega
    · have : j = n := by omega
      subst this
      go_wp2_with fail
      go_ret
      exact ⟨rfl, hbr⟩
end Go.Proofs.Ytmnjbinmfbjbaaa
