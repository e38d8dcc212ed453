/- Arguments opened: slices of whatever elements, structs of one-cell fields, integers. Any law. -/
import Derived.Test.YtdconkggghmgkaaMem
import Derived.Test.YtdconkggghmgkaaFrame
import Derived.Deep.Fields
namespace Go.Proofs.Ytdconkggghmgkaa
open Go.ChangeShapes Go.WideShapes Go.ChangeAt Go.WideMaps Go.WideElems Go.RowKit Go.Deep

/-- A slice value with the address A reads as the list L: an element x takes the cells f x, sz many. -/
def Reads {X : Type} (f : X → List Value) (sz : Nat) (w : World) (A : Option Addr) (L : List X) : Prop :=
  ∀ k x, L[k]? = some x → ∃ b off, A = some ⟨b, off, none⟩ ∧ b < w.heap.size ∧ ∀ j v, (f x)[j]? = some v → w.cell? ⟨b, off + k * sz + j, none⟩ = some v
theorem Reads.below {X : Type} {f : X → List Value} {sz : Nat} {w w' : World} {A : Option Addr} {L : List X} (h : Reads f sz w A L) (hb : Below w.heap.size w w') : Reads f sz w' A L := by
  intro k x hx
  obtain ⟨b, off, hA, hlt, hc⟩ := h k x hx
  exact ⟨b, off, hA, Nat.lt_of_lt_of_le hlt hb.size, fun j v hv => (hb.cell (p := ⟨b, _, none⟩) hlt).trans (hc j v hv)⟩
section
variable {H : Type} {enc : TypeId × Value → H} {P : Program} {w : World} {base : Nat} {spare : Nat → Bool} {held : Bool} {fuel : Nat} {cs : List Value} {y : DataW H × List MemPlace}
theorem spot_of {a : Addr} {v : Value} (h : w.cell? a = some v) : a = ⟨a.block, a.off, none⟩ ∧ a.block < w.heap.size := by
  obtain ⟨b, off, spot⟩ := a
  have : spot = none := World.cell?_spot h
  subst this
  exact ⟨rfl, World.block_lt_of_cell? w _ h⟩
theorem open_list {X : Type} (f : X → List Value) (ok : X → Prop) (sz : Nat) {t e : TypeId} (hu : P.underlying t = some (.slice e)) (hc : P.cellsOf e = sz) (hsz : 0 < sz)
    (hel : ∀ (n : Nat) (cs : List Value) (y : DataW H × List MemPlace), DataW.trod enc P w base (fun _ => true) held n e cs = some y → ∃ x, ok x ∧ cs = f x)
    (h : DataW.trod enc P w base (fun _ => true) held fuel t cs = some y) :
    ∃ (A : Option Addr) (cap : Nat) (L : List X), cs = [.slice A L.length cap] ∧ L.length ≤ 9223372036854775807 ∧ (∀ x ∈ L, ok x) ∧ Reads f sz w A L := by
  rcases open_slice hu h with ⟨rfl, _⟩ | ⟨a, len, cap, m, n, D, Pl, rfl, _, hlc, hcm, hm, _, hi⟩
  · exact ⟨none, 0, [], rfl, by simp, by simp, fun k x hx => by simp at hx⟩
  · rw [if_pos rfl] at hm
    subst hm
    rw [hc] at hi
    have hex : ∀ i, i < m → ∃ x : X, ok x ∧ ∃ b off, a = ⟨b, off, none⟩ ∧ b < w.heap.size ∧ ∀ j v, (f x)[j]? = some v → w.cell? ⟨b, off + i * sz + j, none⟩ = some v := by
      intro i hlt
      obtain ⟨cs', hcs, ht⟩ := hi i hlt
      obtain ⟨x, hx, rfl⟩ := hel _ _ _ ht
      obtain ⟨_, hl, hcell⟩ := World.cells?_some hcs
      obtain ⟨cs0, hcs0, ht0⟩ := hi 0 (by omega)
      obtain ⟨x0, _, rfl⟩ := hel _ _ _ ht0
      obtain ⟨_, hl0, hcell0⟩ := World.cells?_some hcs0
      have z0 := hcell0 0 hsz
      rw [List.getElem?_eq_getElem (by omega)] at z0
      obtain ⟨e1, e2⟩ := spot_of (w := w) (a := a) (by simpa [Addr.add] using z0)
      refine ⟨x, hx, a.block, a.off, e1, e2, fun j v hv => ?_⟩
      have hj : j < sz := by have := (List.getElem?_eq_some_iff.1 hv).1; omega
      have := hcell j hj
      rw [hv, add_add, e1] at this
      simp only [add_plain] at this
      rw [Nat.add_assoc]
      exact this
    by_cases hm0 : len = 0
    · subst hm0
      exact ⟨some a, m, [], rfl, by simp, by simp, fun k x hx => by simp at hx⟩
    · obtain ⟨xd, _⟩ := hex 0 (by omega)
      let F : Nat → X := fun i => if h : i < m then Classical.choose (hex i h) else xd
      have hF : ∀ i (h : i < m), F i = Classical.choose (hex i h) := fun i h => dif_pos h
      refine ⟨some a, m, (List.range len).map F, by simp, by simp; unfold maxLen at hcm; omega, ?_, fun k x hx => ?_⟩
      · intro x hx
        simp only [List.mem_map, List.mem_range] at hx
        obtain ⟨i, hi', rfl⟩ := hx
        rw [hF i (by omega)]
        exact (Classical.choose_spec (hex i (by omega))).1
      · have hk : k < len := by
          have := (List.getElem?_eq_some_iff.1 hx).1
          simpa using this
        simp [hk] at hx
        subst hx
        rw [hF k (by omega)]
        obtain ⟨b, off, e1, e2, e3⟩ := (Classical.choose_spec (hex k (by omega))).2
        exact ⟨b, off, by rw [e1], e2, e3⟩
/-- A struct of one-cell fields: each field's cell, with its own reading. -/
theorem open_cells {t : TypeId} {fs : Array Field} (he : P.underlying t = some (.struct fs)) (hone : oneCellFields P fs = true) (hC : P.cellsOf t = fs.size) (h : DataW.trod enc P w base spare held fuel t cs = some y) :
    cs.length = fs.size ∧ ∀ (j : Nat) (f : Field), fs[j]? = some f → ∃ (v : Value) (z : DataW H × List MemPlace) (n : Nat), cs[j]? = some v ∧ DataW.trod enc P w base spare held n f.type [v] = some z := by
  obtain ⟨xs, n, _, _, hl, hx, hf⟩ := DataW.trod_struct he h
  rw [hC] at hl
  refine ⟨hl, fun j f hj => ?_⟩
  obtain ⟨ho, hk⟩ := hone_of hone j f hj
  have hjl : j < fs.size := (Array.getElem?_eq_some_iff.1 hj).1
  have h1 := hf j f hj
  rw [ho, hk, List.drop_eq_getElem_cons (by omega), List.getElem?_eq_getElem (by omega)] at h1
  exact ⟨_, _, _, List.getElem?_eq_getElem (by omega), h1⟩
theorem one_int {t : TypeId} {k : IntKind} {v : Value} (ht : P.underlying t = some (.int k)) (h : DataW.trod enc P w base spare held fuel t [v] = some y) : ∃ n, v = .int k n ∧ (Lit.int k n).wf = true := by
  obtain ⟨n, h1, _, h3⟩ := DataW.trod_int ht h
  exact ⟨n, by simpa using h1, h3⟩
end
theorem four_of {α : Type} {l : List α} {a b c d : α} (h : l.length = 4) (h0 : l[0]? = some a) (h1 : l[1]? = some b) (h2 : l[2]? = some c) (h3 : l[3]? = some d) : l = [a, b, c, d] := by
  match l, h with
  | [x0, x1, x2, x3], _ => simp at h0 h1 h2 h3; rw [h0, h1, h2, h3]
theorem three_of {α : Type} {l : List α} {a b c : α} (h : l.length = 3) (h0 : l[0]? = some a) (h1 : l[1]? = some b) (h2 : l[2]? = some c) : l = [a, b, c] := by
  match l, h with
  | [x0, x1, x2], _ => simp at h0 h1 h2; rw [h0, h1, h2]
theorem two_of {α : Type} {l : List α} {a b : α} (h : l.length = 2) (h0 : l[0]? = some a) (h1 : l[1]? = some b) : l = [a, b] := by
  match l, h with
  | [x0, x1], _ => simp at h0 h1; rw [h0, h1]
end Go.Proofs.Ytdconkggghmgkaa
