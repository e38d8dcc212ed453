/- The document's entries in memory: what is read of them; one of them anew. -/
import Derived.Test.YtdconkggghmgkaaPrxA
import Derived.Test.YtdconkggghmgkaaRow
import Derived.ArgAppend
namespace Go.Proofs.Ytdconkggghmgkaa
namespace Px
open Go.RowKit

def En.cells (x : En) : List Value := [.int .i64 x.i, .int .i64 x.g, .int .i64 x.c, .int .i64 x.d]
theorem En.cells_len (x : En) : x.cells.length = 4 := rfl
def flat (l : List En) : List Value := l.flatMap En.cells
theorem flat_len (l : List En) : (flat l).length = l.length * 4 := flat_length En.cells_len l
/-- A slice that has its entries in a block of its own. -/
def OwE (w : World) (v : Value) (l : List En) : Prop := w.ownsRow 0 57 4 v l.length (flat l)
theorem Try.infoEn : (Try.prog.info? 57).map (fun i => (i.zero, i.size, i.bytes)) = some (some (.agg #[.int .i64 0, .int .i64 0, .int .i64 0, .int .i64 0]), 4, 32) := by kernel_rfl
section
variable {w w' : World} {v u : Value} {l : List En} {i : Int}
theorem OwE.below (h : OwE w v l) (hb : Below w.heap.size w w') : OwE w' v l := by
  refine ⟨h.1, ?_⟩
  rcases h.2 with hn | ⟨g, cap, cur, rfl, hb0, hgg, rest⟩
  · exact .inl hn
  · refine .inr ⟨g, cap, cur, rfl, hb0, ?_, rest⟩
    rw [(Only.of_below (S := []) hb).block g (Array.getElem?_eq_some_iff.1 hgg).1 (by simp)]
    exact hgg
theorem OwE.of {base : Nat} (h : w.ownsRow base 57 4 v l.length (flat l)) : OwE w v l := by
  refine ⟨h.1, ?_⟩
  rcases h.2 with hn | ⟨g, cap, cur, hv, _, rest⟩
  · exact .inl hn
  · exact .inr ⟨g, cap, cur, hv, Nat.zero_le _, rest⟩
theorem OwE.form (h : OwE w v l) : ∃ A cap, v = .slice A l.length cap ∧ l.length ≤ cap ∧ cap ≤ 9223372036854775807 ∧ ∀ j x, l[j]? = some x → ∃ g, A = some ⟨g, 0, none⟩ ∧ g < w.heap.size ∧
    w.cell? ⟨g, j * 4, none⟩ = some (.int .i64 x.i) ∧ w.cell? ⟨g, j * 4 + 1, none⟩ = some (.int .i64 x.g) ∧ w.cell? ⟨g, j * 4 + 2, none⟩ = some (.int .i64 x.c) ∧ w.cell? ⟨g, j * 4 + 3, none⟩ = some (.int .i64 x.d) := by
  have hh : w.ownsRow 0 57 4 v l.length (flat l) := h
  rcases h.2 with ⟨rfl, hl⟩ | ⟨g, cap, cur, rfl, _, hg, hc, hm, _⟩
  · exact ⟨none, 0, by rw [hl], by omega, by omega, fun j x hx => by have := (List.getElem?_eq_some_iff.1 hx).1; omega⟩
  · have hc' : cap ≤ 9223372036854775807 := by simp only [maxLen] at hm; omega
    refine ⟨_, cap, rfl, hc, hc', fun j x hx => ⟨g, rfl, (Array.getElem?_eq_some_iff.1 hg).1, ?_⟩⟩
    have hj := (List.getElem?_eq_some_iff.1 hx).1
    have at_ : ∀ k v, k < 4 → x.cells[k]? = some v → w.cell? ⟨g, j * 4 + k, none⟩ = some v := fun k v hk hv => by
      rw [hh.cellAt (j * 4 + k) (by omega)]
      exact flat_at En.cells_len l j k x v hx hv
    exact ⟨at_ 0 _ (by omega) rfl, at_ 1 _ (by omega) rfl, at_ 2 _ (by omega) rfl, at_ 3 _ (by omega) rfl⟩
/-- Where an entry is, or none. -/
theorem at_cases (l : List En) (i : Int) : i < 0 ∧ atE l i = none ∨ ¬ i < 0 ∧ (l.length : Int) ≤ i ∧ atE l i = none ∨ ∃ (n : Nat) (x : En), i = n ∧ n < l.length ∧ l[n]? = some x ∧ atE l i = some x := by
  by_cases h0 : i < 0
  · exact Or.inl ⟨h0, by unfold atE; rw [if_pos h0]⟩
  · obtain ⟨n, rfl⟩ : ∃ n : Nat, i = n := ⟨i.toNat, by omega⟩
    by_cases h1 : n < l.length
    · exact Or.inr (Or.inr ⟨n, l[n], rfl, h1, List.getElem?_eq_getElem h1, by unfold atE; rw [if_neg h0, Int.toNat_natCast]; exact List.getElem?_eq_getElem h1⟩)
    · exact Or.inr (Or.inl ⟨h0, by omega, by unfold atE; rw [if_neg h0, Int.toNat_natCast]; exact List.getElem?_eq_none (by omega)⟩)
/-- An entry stored. -/
theorem flat_put {n : Nat} {x : En} (hx : l[n]? = some x) (y : En) : ((((flat l).set (n * 4) (.int .i64 y.i)).set (n * 4 + 1) (.int .i64 y.g)).set (n * 4 + 2) (.int .i64 y.c)).set (n * 4 + 3) (.int .i64 y.d) = flat (l.set n y) := by
  have hn := (List.getElem?_eq_some_iff.1 hx).1
  have e1 : (flat l).set (n * 4 + 0) (.int .i64 y.i) = flat (l.set n ⟨y.i, x.g, x.c, x.d⟩) := flat_set En.cells_len l n 0 x ⟨y.i, x.g, x.c, x.d⟩ _ hx rfl (by omega)
  have e2 : (flat (l.set n ⟨y.i, x.g, x.c, x.d⟩)).set (n * 4 + 1) (.int .i64 y.g) = flat ((l.set n ⟨y.i, x.g, x.c, x.d⟩).set n ⟨y.i, y.g, x.c, x.d⟩) := flat_set En.cells_len _ n 1 ⟨y.i, x.g, x.c, x.d⟩ ⟨y.i, y.g, x.c, x.d⟩ _ (List.getElem?_set_self hn) rfl (by omega)
  have e3 : (flat (l.set n ⟨y.i, y.g, x.c, x.d⟩)).set (n * 4 + 2) (.int .i64 y.c) = flat ((l.set n ⟨y.i, y.g, x.c, x.d⟩).set n ⟨y.i, y.g, y.c, x.d⟩) := flat_set En.cells_len _ n 2 ⟨y.i, y.g, x.c, x.d⟩ ⟨y.i, y.g, y.c, x.d⟩ _ (List.getElem?_set_self hn) rfl (by omega)
  have e4 : (flat (l.set n ⟨y.i, y.g, y.c, x.d⟩)).set (n * 4 + 3) (.int .i64 y.d) = flat ((l.set n ⟨y.i, y.g, y.c, x.d⟩).set n y) := flat_set En.cells_len _ n 3 ⟨y.i, y.g, y.c, x.d⟩ y _ (List.getElem?_set_self hn) rfl (by omega)
  rw [List.set_set] at e2 e3 e4
  rw [← e4, ← e3, ← e2, ← e1]
  rfl
set_option maxRecDepth 100000 in
set_option maxHeartbeats 800000 in
theorem egen_any (i : Int) (h : OwE w u l) : Calls Try.prog 11 #[u, .int .i64 i] w fun e w' => e = .returned (.int .i64 (gnZ l i)) ∧ w = w' := by
  obtain ⟨A, cap, rfl, hc1, hc2, hat⟩ := h.form
  have HG : ∀ g, (match atE l i with | some x => x.g | none => 0) = g → gnZ l i = g := fun g e => e
  rcases at_cases l i with ⟨h0, e⟩ | ⟨h0, h1, e⟩ | ⟨n, x, rfl, hn, hx, e⟩
  · rw [HG 0 (by rw [e])]
    clear hat h e HG
    go_enter Try.func11, Try.ntmps11
    go_wp2_with fail
    go_ret
    exact ⟨rfl, rfl⟩
  · rw [HG 0 (by rw [e])]
    clear hat h e HG
    go_enter Try.func11, Try.ntmps11
    go_wp2_with fail
    go_ret
    exact ⟨rfl, rfl⟩
  · rw [HG x.g (by rw [e])]
    obtain ⟨g, rfl, hg, c0, c1, c2, c3⟩ := hat n x hx
    have hn' : ¬ ((l.length : Int) ≤ n) := by omega
    have hn2 : (n : Int) < l.length := by omega
    clear hat h e HG hx
    go_enter Try.func11, Try.ntmps11
    go_wp2_with fail
    go_ret
    exact ⟨rfl, rfl⟩
end
end Px
end Go.Proofs.Ytdconkggghmgkaa
