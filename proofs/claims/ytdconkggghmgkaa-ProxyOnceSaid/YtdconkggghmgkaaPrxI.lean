/- The four rows that ProxyOnce keeps: acts, entries, generations, what each is. -/
import Derived.Test.YtdconkggghmgkaaPrxH
import Derived.Test.YtdconkggghmgkaaInts
namespace Go.Proofs.Ytdconkggghmgkaa
namespace Px
open Go.RowKit

def Pact.cells (x : Pact) : List Value := [.int .u8 x.k, .int .i64 x.a, .int .i64 x.b]
theorem Pact.cells_len (x : Pact) : x.cells.length = 3 := rfl
def flatP (l : List Pact) : List Value := l.flatMap Pact.cells
theorem flatP_len (l : List Pact) : (flatP l).length = l.length * 3 := flat_length Pact.cells_len l
theorem flatP_snoc (l : List Pact) (x : Pact) : flatP (l ++ [x]) = flatP l ++ [.int .u8 x.k, .int .i64 x.a, .int .i64 x.b] := by simp [flatP, Pact.cells]
theorem Try.infoAct : (Try.prog.info? 33).map (fun i => (i.zero, i.size, i.bytes)) = some (some (.agg #[.int .u8 0, .int .i64 0, .int .i64 0]), 3, 24) := by kernel_rfl
theorem row_only {w w' : World} {B : Nat} {t : TypeId} {sz n : Nat} {v : Value} {xs : List Value} {S : List Nat} (h : w.ownsRow B t sz v n xs) (ho : Only S w w') (hS : ∀ g, v.ownBlock = some g → g ∉ S) : w'.ownsRow B t sz v n xs := by
  refine ⟨h.1, ?_⟩
  rcases h.2 with hn | ⟨g, cap, cur, rfl, hb0, hgg, rest⟩
  · exact .inl hn
  · refine .inr ⟨g, cap, cur, rfl, hb0, ?_, rest⟩
    rw [ho.block g (Array.getElem?_eq_some_iff.1 hgg).1 (hS g rfl)]
    exact hgg
theorem row_blk {w : World} {B : Nat} {t : TypeId} {sz n : Nat} {v : Value} {xs : List Value} (h : w.ownsRow B t sz v n xs) {g : Nat} (hg : v.ownBlock = some g) : ∃ cs : Array Value, w.heap[g]? = some (.cells cs t (0, 0)) := by
  rcases h.2 with ⟨rfl, _⟩ | ⟨g', cap, cur, rfl, _, hb, _⟩
  · simp [Value.ownBlock] at hg
  · have : g' = g := by simpa [Value.ownBlock] using hg
    subst this
    exact ⟨_, hb⟩
theorem row_shape {w : World} {B : Nat} {t : TypeId} {sz n : Nat} {v : Value} {xs : List Value} (h : w.ownsRow B t sz v n xs) : ∃ A cap, v = .slice A n cap ∧ n ≤ cap ∧ cap ≤ 9223372036854775807 := by
  rcases h.2 with ⟨rfl, h0⟩ | ⟨g', cap, cur, rfl, _, _, h1, h2, _⟩
  · exact ⟨none, 0, by rw [h0], by omega, by omega⟩
  · exact ⟨_, cap, rfl, h1, by simp only [maxLen] at h2; omega⟩
theorem row_int {w : World} {B n cap : Nat} {A : Option Addr} {L : List Int} (h : w.ownsRow B 3 1 (.slice A n cap) n (vals L)) {j : Nat} {x : Int} (hx : L[j]? = some x) (hj : j < n) : ∃ g, A = some ⟨g, 0, none⟩ ∧ g < w.heap.size ∧ w.cell? ⟨g, j, none⟩ = some (.int .i64 x) := by
  rcases h.2 with ⟨e, h0⟩ | ⟨g, cap', cur, e, _, hg, _⟩
  · omega
  · simp only [Value.slice.injEq, true_and] at e
    obtain ⟨rfl, rfl⟩ := e
    refine ⟨g, rfl, (Array.getElem?_eq_some_iff.1 hg).1, ?_⟩
    rw [h.cellAt j (by omega)]
    exact vals_of _ _ _ hx
theorem row_act {w : World} {B n cap : Nat} {A : Option Addr} {L : List Pact} (h : w.ownsRow B 33 3 (.slice A n cap) n (flatP L)) {j : Nat} {x : Pact} (hx : L[j]? = some x) (hj : j < n) : ∃ g, A = some ⟨g, 0, none⟩ ∧ g < w.heap.size ∧ w.cell? ⟨g, j * 3, none⟩ = some (.int .u8 x.k) ∧ w.cell? ⟨g, j * 3 + 1, none⟩ = some (.int .i64 x.a) ∧ w.cell? ⟨g, j * 3 + 2, none⟩ = some (.int .i64 x.b) := by
  rcases h.2 with ⟨e, h0⟩ | ⟨g, cap', cur, e, _, hg, _⟩
  · omega
  · simp only [Value.slice.injEq, true_and] at e
    obtain ⟨rfl, rfl⟩ := e
    have at_ : ∀ k v, k < 3 → x.cells[k]? = some v → w.cell? ⟨g, j * 3 + k, none⟩ = some v := fun k v hk hv => by
      rw [h.cellAt (j * 3 + k) (by omega)]
      exact flat_at Pact.cells_len L j k x v hx hv
    exact ⟨g, rfl, (Array.getElem?_eq_some_iff.1 hg).1, at_ 0 _ (by omega) rfl, at_ 1 _ (by omega) rfl, at_ 2 _ (by omega) rfl⟩
/-- The rows. -/
structure R4 (B : Nat) (w : World) (va ve vg vs : Value) (xs : List Pact) (h : List Hr) : Prop where
  a : w.ownsRow B 33 3 va xs.length (flatP xs)
  e : w.ownsRow B 3 1 ve h.length (vals (h.map Hr.e))
  g : w.ownsRow B 3 1 vg h.length (vals (h.map Hr.g))
  s : w.ownsRow B 3 1 vs h.length (vals (h.map Hr.s))
  eg : ∀ z, ve.ownBlock = some z → vg.ownBlock ≠ some z
  es : ∀ z, ve.ownBlock = some z → vs.ownBlock ≠ some z
  gs : ∀ z, vg.ownBlock = some z → vs.ownBlock ≠ some z
  ab : ∀ (k : Nat) r, h[k]? = some r → ∃ p, xs[k]? = some p ∧ p.a = r.a ∧ p.b = r.b
  len : xs.length = h.length
section
variable {PT : World → Nat → List En → Prop} {B : Nat} {w w' : World} {va ve vg vs : Value} {xs : List Pact} {h : List Hr} {b : Nat} {l : List En}
theorem R4.nil (B : Nat) (w : World) : R4 B w (.slice none 0 0) (.slice none 0 0) (.slice none 0 0) (.slice none 0 0) [] [] :=
  ⟨World.ownsRow_nil _ _ _ _, World.ownsRow_nil _ _ _ _, World.ownsRow_nil _ _ _ _, World.ownsRow_nil _ _ _ _, by simp [Value.ownBlock], by simp [Value.ownBlock], by simp [Value.ownBlock], by simp, rfl⟩
theorem R4.below (r : R4 B w va ve vg vs xs h) (hb : Below w.heap.size w w') : R4 B w' va ve vg vs xs h :=
  have ho : Only [] w w' := Only.of_below hb
  ⟨row_only r.a ho (by simp), row_only r.e ho (by simp), row_only r.g ho (by simp), row_only r.s ho (by simp), r.eg, r.es, r.gs, r.ab, r.len⟩
/-- A call on the table. -/
theorem R4.call (hP : PrxOk PT) (r : R4 B w va ve vg vs xs h) (hp : PT w b l) (ho : Only [b] w w') : R4 B w' va ve vg vs xs h := by
  have off : ∀ {t : TypeId} {sz n : Nat} {v : Value} {ys : List Value}, w.ownsRow B t sz v n ys → t ≠ 54 → ∀ g, v.ownBlock = some g → g ∉ [b] := fun hr ht g hg => by
    obtain ⟨cs, hc⟩ := row_blk hr hg
    simpa using hP.off hp hc ht
  exact ⟨row_only r.a ho (off r.a (by decide)), row_only r.e ho (off r.e (by decide)), row_only r.g ho (off r.g (by decide)), row_only r.s ho (off r.s (by decide)), r.eg, r.es, r.gs, r.ab, r.len⟩
/-- What one is, is written anew. -/
theorem R4.put {k : Nat} {y y' : Hr} {g cap : Nat} (r : R4 B w va ve vg (.slice (some ⟨g, 0, none⟩) h.length cap) xs h) (hy : h[k]? = some y) (hy' : y' = { y with s := y'.s }) : R4 B (w.setCell ⟨g, k, none⟩ (.int .i64 y'.s)) va ve vg (.slice (some ⟨g, 0, none⟩) (h.set k y').length cap) xs (h.set k y') := by
  have hlt := (List.getElem?_eq_some_iff.1 hy).1
  have ho : Only [g] w (w.setCell ⟨g, k, none⟩ (.int .i64 y'.s)) := (Only.refl _ _).setCell (Or.inl (by simp)) _
  have hsame : ∀ f : Hr → Int, f y' = f y → (h.set k y').map f = h.map f := fun f hf => by
    rw [List.map_set, hf]
    apply List.ext_getElem?
    intro j
    rw [List.getElem?_set]
    split
    · rename_i e
      subst e
      rw [List.getElem?_map, hy]
      simp [hlt]
    · rfl
  have he : y'.e = y.e := by rw [hy']
  have hg : y'.g = y.g := by rw [hy']
  have ha : y'.a = y.a := by rw [hy']
  have hb : y'.b = y.b := by rw [hy']
  refine ⟨row_only r.a ho (fun z hz hm => ?_), ?_, ?_, ?_, r.eg, r.es, r.gs, fun j q hq => ?_, by rw [List.length_set]; exact r.len⟩
  · obtain ⟨c1, h1⟩ := row_blk r.a hz
    obtain ⟨c2, h2⟩ := row_blk r.s (g := g) rfl
    obtain rfl : z = g := by simpa using hm
    rw [h1] at h2
    simp at h2
  · rw [List.length_set, hsame Hr.e he]
    refine row_only r.e ho (fun z hz hm => ?_)
    have e : z = g := by simpa using hm
    subst e
    exact r.es _ hz rfl
  · rw [List.length_set, hsame Hr.g hg]
    refine row_only r.g ho (fun z hz hm => ?_)
    have e : z = g := by simpa using hm
    subst e
    exact r.gs _ hz rfl
  · have h1 := (r.s.stored k (.int .i64 y'.s)).1
    rw [vals_set] at h1
    rw [List.map_set, List.length_set]
    exact h1
  · rw [List.getElem?_set] at hq
    split at hq
    · rename_i e
      subst e
      first | rw [if_pos hlt] at hq | skip
      obtain rfl := Option.some.inj hq
      obtain ⟨p, p1, p2, p3⟩ := r.ab _ y hy
      exact ⟨p, p1, by rw [p2, ha], by rw [p3, hb]⟩
    · exact r.ab j q hq
end
end Px
end Go.Proofs.Ytdconkggghmgkaa
