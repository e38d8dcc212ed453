/- GraphTells, as a call. -/
import Derived.Test.YtmnjbinmfbjbaaaGraL
import Derived.Deep.RegionHeld3
namespace Go.Proofs.Ytmnjbinmfbjbaaa
namespace Gr
open Go.RowKit Go.Maps

/-- A law's world: the box at q with the graph; the IDs that are asked. -/
structure LW (w0 w : World) (q : Nat) (nv rv fv : Value) (G : Gp) (fr : List Int) : Prop where
  box : Blk w q 25 [nv, rv]
  gr : GrAt w (.agg #[nv, rv]) G
  rd : Rd w fv fr
  below : Below w0.heap.size w0 w
section
variable {w0 w w' : World} {q : Nat} {nv rv fv u y : Value} {G : Gp} {fr L : List Int}
theorem LW.more (h : LW w0 w q nv rv fv G fr) (hb : Below w.heap.size w w') : LW w0 w' q nv rv fv G fr := ⟨h.box.below hb h.box.lt, h.gr.below hb, h.rd.below hb, below_more h.below hb⟩
theorem below_drew (w : World) : Below w.heap.size w w.drew := ⟨rfl, rfl, rfl, Nat.le_refl _, fun _ _ => rfl⟩
theorem LW.drew (h : LW w0 w q nv rv fv G fr) : LW w0 w.drew q nv rv fv G fr := h.more (below_drew w)
def LS (w0 : World) (q : Nat) (nv rv fv : Value) (G : Gp) (fr : List Int) (w : World) : Prop := w.cell? ⟨q, 0, none⟩ = some nv ∧ w.cell? ⟨q, 1, none⟩ = some rv ∧ LW w0 w q nv rv fv G fr
theorem ls_of (h : w.cell? ⟨q, 0, none⟩ = some nv ∧ w.cell? ⟨q, 1, none⟩ = some rv ∧ LW w0 w q nv rv fv G fr) : LW w0 w q nv rv fv G fr := h.2.2
theorem lw_S (h : LW w0 w q nv rv fv G fr) : w.cell? ⟨q, 0, none⟩ = some nv ∧ w.cell? ⟨q, 1, none⟩ = some rv ∧ LW w0 w q nv rv fv G fr := ⟨h.box.cell rfl, h.box.cell rfl, h⟩
variable (hn : G.nodes.length ≤ 1000) (hP : (allP G).length ≤ 100000)
include hn in
theorem lw_reach (h : LW w0 w q nv rv fv G fr) : Calls Try.prog 20 #[.agg #[nv, rv], fv] w fun e w' => ∃ u, e = .returned u ∧ Own w' u (reachA G fr) ∧ LW w0 w' q nv rv fv G fr ∧ Below w.heap.size w w' :=
  (preach_any G fr w _ _ h.gr h.rd hn).mono fun _ _ ⟨u, he, hu, hb⟩ => ⟨u, he, (Own.of hu).1, h.more hb, hb⟩
include hn in
theorem lw_rreach (h : LW w0 w q nv rv fv G fr) : Calls Try.prog 18 #[.agg #[nv, rv], fv] w fun e w' => ∃ u, e = .returned u ∧ Own w' u (reachA G fr) ∧ LW w0 w' q nv rv fv G fr ∧ Below w.heap.size w w' :=
  (rreach_any G fr w _ _ h.gr h.rd hn).mono fun _ _ ⟨u, he, hu, hb⟩ => ⟨u, he, (Own.of hu).1, h.more hb, hb⟩
include hn in
include hn in
theorem lw_rdead (h : LW w0 w q nv rv fv G fr) : Calls Try.prog 16 #[.agg #[nv, rv]] w fun e w' => ∃ u, e = .returned u ∧ Own w' u (deadA G) ∧ LW w0 w' q nv rv fv G fr ∧ Below w.heap.size w w' :=
  (rdead_any G w _ h.gr hn).mono fun _ _ ⟨u, he, hu, hb⟩ => ⟨u, he, (Own.of hu).1, h.more hb, hb⟩
include hn hP in
include hn hP in
theorem lw_rcounts (h : LW w0 w q nv rv fv G fr) : Calls Try.prog 15 #[.agg #[nv, rv]] w fun e w' => ∃ u, e = .returned u ∧ Own w' u (countsA G) ∧ LW w0 w' q nv rv fv G fr ∧ Below w.heap.size w w' :=
  (rcounts_any G w _ h.gr hn hP).mono fun _ _ ⟨u, he, hu, hb⟩ => ⟨u, he, (Own.of hu).1, h.more hb, hb⟩
include hn in
theorem lw_right (h : LW w0 w q nv rv fv G fr) : Calls Try.prog 30 #[.agg #[nv, rv]] w fun e w' => e = .returned (.bool (rightB G)) ∧ LW w0 w' q nv rv fv G fr :=
  (pright_any G w _ h.gr hn).mono fun _ _ ⟨he, hb⟩ => ⟨he, h.more hb⟩
include hn in
theorem lw_rright (h : LW w0 w q nv rv fv G fr) : Calls Try.prog 14 #[.agg #[nv, rv]] w fun e w' => e = .returned (.bool (rightB G)) ∧ LW w0 w' q nv rv fv G fr :=
  (rright_any G w _ h.gr (by omega)).mono fun _ _ ⟨he, hb⟩ => ⟨he, h.more hb⟩
theorem lw_fits (h : LW w0 w q nv rv fv G fr) : Calls Try.prog 5 #[.agg #[nv, rv]] w fun e w' => e = .returned (.bool (fitsB G)) ∧ LW w0 w' q nv rv fv G fr :=
  (fits_any G w _ h.gr).mono fun _ _ ⟨he, hb⟩ => ⟨he, h.more hb⟩
theorem lw_ints (h : LW w0 w q nv rv fv G fr) (hl : L.length ≤ 1000) (hu : Own w u L) (hy : Own w y L) : Calls Try.prog 7 #[u, y] w fun e w' => e = .returned (.bool true) ∧ LW w0 w' q nv rv fv G fr :=
  (ints_any L hl w u y hu hy).mono fun _ _ ⟨he, hb⟩ => ⟨he, h.more hb⟩
end
theorem deadA_len {G : Gp} : (deadA G).length ≤ G.nodes.length := by
  unfold deadA
  split
  · exact dead_len
  · simp
theorem countsA_len {G : Gp} : (countsA G).length ≤ G.nodes.length := by
  unfold countsA
  split
  · unfold countsL; rw [List.length_map, ids_length]; exact Nat.le_refl _
  · simp
theorem fits_facts {G : Gp} (h : fitsB G = true) : G.nodes.length ≤ 30 ∧ G.roots.length ≤ 30 ∧ (∀ n ∈ G.nodes, n.out.length ≤ 30) ∧ (allP G).length ≤ 930 := by
  simp only [fitsB, Bool.and_eq_true, decide_eq_true_eq, List.all_eq_true] at h
  obtain ⟨⟨h1, h2⟩, h3⟩ := h
  refine ⟨h1, h2, h3, ?_⟩
  have : ∀ l : List Nd, (∀ n ∈ l, n.out.length ≤ 30) → (l.flatMap Nd.out).length ≤ 30 * l.length := by
    intro l
    induction l with
    | nil => simp
    | cons n r ih =>
      intro hl
      have ih' := ih (fun m hm => hl m (List.mem_cons_of_mem _ hm))
      have hn := hl n (List.mem_cons_self ..)
      rw [List.flatMap_cons, List.length_append, List.length_cons]
      omega
  have := this G.nodes h3
  unfold allP
  rw [List.length_append]
  omega

end Gr
end Go.Proofs.Ytmnjbinmfbjbaaa
