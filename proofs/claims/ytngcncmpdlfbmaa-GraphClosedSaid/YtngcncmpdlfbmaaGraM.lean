/- GraphTells, as a call. -/
import Derived.Test.YtngcncmpdlfbmaaGraL
import Derived.Deep.RegionHeld3
namespace Go.Proofs.Ytngcncmpdlfbmaa
namespace Gr
open Go.RowKit Go.Maps

/-- A law's world: the box at q with the graph; the IDs that are asked. -/
structure LW (w0 w : World) (q : Nat) (nv rv fv : Value) (G : Gp) (fr : List Int) : Prop where
  box : Blk w q 25 [nv, rv]
  gr : GrAt w (.agg #[nv, rv]) G
  rd : Rd w fv fr
  below : Below w0.heap.size w0 w
section
variable {w0 w w' : World} {q : Nat} {nv rv fv u y : Value} {G : Gp} {fr L : List Int}
theorem LW.more (h : LW w0 w q nv rv fv G fr) (hb : Below w.heap.size w w') : LW w0 w' q nv rv fv G fr := ⟨h.box.below hb h.box.lt, h.gr.below hb, h.rd.below hb, below_more h.below hb⟩
theorem below_drew (w : World) : Below w.heap.size w w.drew := ⟨rfl, rfl, rfl, Nat.le_refl _, fun _ _ => rfl⟩
theorem LW.drew (h : LW w0 w q nv rv fv G fr) : LW w0 w.drew q nv rv fv G fr := h.more (below_drew w)
def LS (w0 : World) (q : Nat) (nv rv fv : Value) (G : Gp) (fr : List Int) (w : World) : Prop := w.cell? ⟨q, 0, none⟩ = some nv ∧ w.cell? ⟨q, 1, none⟩ = some rv ∧ LW w0 w q nv rv fv G fr
theorem ls_of (h : w.cell? ⟨q, 0, none⟩ = some nv ∧ w.cell? ⟨q, 1, none⟩ = some rv ∧ LW w0 w q nv rv fv G fr) : LW w0 w q nv rv fv G fr := h.2.2
theorem lw_S (h : LW w0 w q nv rv fv G fr) : w.cell? ⟨q, 0, none⟩ = some nv ∧ w.cell? ⟨q, 1, none⟩ = some rv ∧ LW w0 w q nv rv fv G fr := ⟨h.box.cell rfl, h.box.cell rfl, h⟩
variable (hn : G.nodes.length ≤ 1000) (hP : (allP G).length ≤ 100000)
include hn in
theorem lw_reach (h : LW w0 w q nv rv fv G fr) : Calls Try.prog 8 #[.agg #[nv, rv], fv] w fun e w' => ∃ u, e = .returned u ∧ Own w' u (reachA G fr) ∧ LW w0 w' q nv rv fv G fr ∧ Below w.heap.size w w' :=
  (preach_any G fr w _ _ h.gr h.rd hn).mono fun _ _ ⟨u, he, hu, hb⟩ => ⟨u, he, (Own.of hu).1, h.more hb, hb⟩
include hn in
theorem lw_rreach (h : LW w0 w q nv rv fv G fr) : Calls Try.prog 9 #[.agg #[nv, rv], fv] w fun e w' => ∃ u, e = .returned u ∧ Own w' u (reachA G fr) ∧ LW w0 w' q nv rv fv G fr ∧ Below w.heap.size w w' :=
  (rreach_any G fr w _ _ h.gr h.rd hn).mono fun _ _ ⟨u, he, hu, hb⟩ => ⟨u, he, (Own.of hu).1, h.more hb, hb⟩
include hn in
theorem lw_dead (h : LW w0 w q nv rv fv G fr) : Calls Try.prog 10 #[.agg #[nv, rv]] w fun e w' => ∃ u, e = .returned u ∧ Own w' u (deadA G) ∧ LW w0 w' q nv rv fv G fr ∧ Below w.heap.size w w' :=
  (pdead_any G w _ h.gr hn).mono fun _ _ ⟨u, he, hu, hb⟩ => ⟨u, he, (Own.of hu).1, h.more hb, hb⟩
include hn in
theorem lw_rdead (h : LW w0 w q nv rv fv G fr) : Calls Try.prog 11 #[.agg #[nv, rv]] w fun e w' => ∃ u, e = .returned u ∧ Own w' u (deadA G) ∧ LW w0 w' q nv rv fv G fr ∧ Below w.heap.size w w' :=
  (rdead_any G w _ h.gr hn).mono fun _ _ ⟨u, he, hu, hb⟩ => ⟨u, he, (Own.of hu).1, h.more hb, hb⟩
include hn hP in
theorem lw_counts (h : LW w0 w q nv rv fv G fr) : Calls Try.prog 12 #[.agg #[nv, rv]] w fun e w' => ∃ u, e = .returned u ∧ Own w' u (countsA G) ∧ LW w0 w' q nv rv fv G fr ∧ Below w.heap.size w w' :=
  (pcounts_any G w _ h.gr hn hP).mono fun _ _ ⟨u, he, hu, hb⟩ => ⟨u, he, (Own.of hu).1, h.more hb, hb⟩
include hn hP in
theorem lw_rcounts (h : LW w0 w q nv rv fv G fr) : Calls Try.prog 13 #[.agg #[nv, rv]] w fun e w' => ∃ u, e = .returned u ∧ Own w' u (countsA G) ∧ LW w0 w' q nv rv fv G fr ∧ Below w.heap.size w w' :=
  (rcounts_any G w _ h.gr hn hP).mono fun _ _ ⟨u, he, hu, hb⟩ => ⟨u, he, (Own.of hu).1, h.more hb, hb⟩
include hn in
theorem lw_right (h : LW w0 w q nv rv fv G fr) : Calls Try.prog 14 #[.agg #[nv, rv]] w fun e w' => e = .returned (.bool (rightB G)) ∧ LW w0 w' q nv rv fv G fr :=
  (pright_any G w _ h.gr hn).mono fun _ _ ⟨he, hb⟩ => ⟨he, h.more hb⟩
include hn in
theorem lw_rright (h : LW w0 w q nv rv fv G fr) : Calls Try.prog 15 #[.agg #[nv, rv]] w fun e w' => e = .returned (.bool (rightB G)) ∧ LW w0 w' q nv rv fv G fr :=
  (rright_any G w _ h.gr (by omega)).mono fun _ _ ⟨he, hb⟩ => ⟨he, h.more hb⟩
theorem lw_fits (h : LW w0 w q nv rv fv G fr) : Calls Try.prog 5 #[.agg #[nv, rv]] w fun e w' => e = .returned (.bool (fitsB G)) ∧ LW w0 w' q nv rv fv G fr :=
  (fits_any G w _ h.gr).mono fun _ _ ⟨he, hb⟩ => ⟨he, h.more hb⟩
theorem lw_alive (h : LW w0 w q nv rv fv G fr) : Calls Try.prog 6 #[] w fun e w' => e = .returned (.bool true) ∧ LW w0 w' q nv rv fv G fr :=
  (alive10_any w).mono fun _ _ ⟨he, hb⟩ => ⟨he, h.more hb⟩
theorem lw_ints (h : LW w0 w q nv rv fv G fr) (hl : L.length ≤ 1000) (hu : Own w u L) (hy : Own w y L) : Calls Try.prog 7 #[u, y] w fun e w' => e = .returned (.bool true) ∧ LW w0 w' q nv rv fv G fr :=
  (ints_any L hl w u y hu hy).mono fun _ _ ⟨he, hb⟩ => ⟨he, h.more hb⟩
end
theorem deadA_len {G : Gp} : (deadA G).length ≤ G.nodes.length := by
  unfold deadA
  split
  · exact dead_len
  · simp
theorem countsA_len {G : Gp} : (countsA G).length ≤ G.nodes.length := by
  unfold countsA
  split
  · unfold countsL; rw [List.length_map, ids_length]; exact Nat.le_refl _
  · simp
theorem fits_facts {G : Gp} (h : fitsB G = true) : G.nodes.length ≤ 30 ∧ G.roots.length ≤ 30 ∧ (∀ n ∈ G.nodes, n.out.length ≤ 30) ∧ (allP G).length ≤ 930 := by
  simp only [fitsB, Bool.and_eq_true, decide_eq_true_eq, List.all_eq_true] at h
  obtain ⟨⟨h1, h2⟩, h3⟩ := h
  refine ⟨h1, h2, h3, ?_⟩
  have : ∀ l : List Nd, (∀ n ∈ l, n.out.length ≤ 30) → (l.flatMap Nd.out).length ≤ 30 * l.length := by
    intro l
    induction l with
    | nil => simp
    | cons n r ih =>
      intro hl
      have ih' := ih (fun m hm => hl m (List.mem_cons_of_mem _ hm))
      have hn := hl n (List.mem_cons_self ..)
      rw [List.flatMap_cons, List.length_append, List.length_cons]
      omega
  have := this G.nodes h3
  unfold allP
  rw [List.length_append]
  omega

set_option maxRecDepth 100000 in
set_option maxHeartbeats 3200000 in
theorem tells10_any (G : Gp) (fr : List Int) (w : World) (gv fv : Value) (hg : GrAt w gv G) (hf : Rd w fv fr) :
    Calls Try.prog 3 #[gv, fv] w fun e w' => e = .returned (.bool true) ∧ Below w.heap.size w w' := by
  obtain ⟨A, cap, B, cb, rfl, h1, h2, h3⟩ := id hg
  obtain ⟨fA, fc, rfl⟩ : ∃ fA fc, fv = .slice fA fr.length fc := by
    obtain ⟨_, fA, fc, e, _⟩ := hf
    exact ⟨fA, fc, e⟩
  have hfl : fr.length ≤ 9223372036854775807 := by
    obtain ⟨_, _, _, e, h4, h5, _⟩ := hf
    omega
  obtain ⟨v0, q, hv0, hq, K, hb0, hs0⟩ := box_any w (.slice A G.nodes.length cap) (.slice B G.roots.length cb)
  have hw0 : Below w.heap.size w v0 := by rw [hq]; exact hb0
  have L0 : LW w v0 q (.slice A G.nodes.length cap) (.slice B G.roots.length cb) (.slice fA fr.length fc) G fr := ⟨K, hg.below hw0, hf.below hw0, hw0⟩
  obtain ⟨c0, c1, _⟩ := lw_S L0
  have cF := lw_fits L0
  clear K hb0 hw0 hs0 h1 h2 h3 hg hf
  cases hF : fitsB G
  · rw [hF] at cF
    go_enter Try.func3, Try.ntmps3
    go_wp2_with fail
    refine cF.mono ?_
    rintro e w1 ⟨rfl, L1⟩
    clear c0 c1 cF
    have cA := lw_alive L1
    go_wp2_with fail
    refine cA.mono ?_
    rintro e w2 ⟨rfl, L2⟩
    go_wp2_with fail
    go_ret
    exact ⟨rfl, L2.below⟩
  rw [hF] at cF
  by_cases hfr : 30 < fr.length
  · have hfb : decide (30 < fr.length) = true := by simpa using hfr
    go_enter Try.func3, Try.ntmps3
    go_wp2_with fail
    refine cF.mono ?_
    rintro e w1 ⟨rfl, L1⟩
    clear c0 c1 cF
    have cA := lw_alive L1
    go_wp2_with fail
    refine cA.mono ?_
    rintro e w2 ⟨rfl, L2⟩
    go_wp2_with fail
    go_ret
    exact ⟨rfl, L2.below⟩
  have hfb : decide (30 < fr.length) = false := by simpa using hfr
  obtain ⟨hn, hR, _, hP⟩ := fits_facts hF
  have HN : Aside (G.nodes.length ≤ 1000) := by show _ ≤ _; omega
  have HP : Aside ((allP G).length ≤ 100000) := by show _ ≤ _; omega
  have HL1 : Aside ((reachA G fr).length ≤ 1000) := by have := reachA_len (G := G) (fr := fr); show _ ≤ _; omega
  have HL2 : Aside ((deadA G).length ≤ 1000) := by have := deadA_len (G := G); show _ ≤ _; omega
  have HL3 : Aside ((countsA G).length ≤ 1000) := by have := countsA_len (G := G); show _ ≤ _; omega
  clear hn hR hP hF
  go_enter Try.func3, Try.ntmps3
  go_wp2_with fail
  refine cF.mono ?_
  rintro e w1 ⟨rfl, hS⟩
  clear c0 c1 cF L0 hv0
  go_wp2_with fail
  go_region_held3 (fun W => W.cell? ⟨q, 0, none⟩ = some (.slice A G.nodes.length cap) ∧ W.cell? ⟨q, 1, none⟩ = some (.slice B G.roots.length cb) ∧ LW w W q (.slice A G.nodes.length cap) (.slice B G.roots.length cb) (.slice fA fr.length fc) G fr) (first | exact lw_S hS | exact lw_S hS.drew)
    (first
    | (go_at_call 8; ((with_reducible refine (lw_reach HN.out (ls_of (by assumption))).mono ?_); rintro e w1 ⟨ux, rfl, hux, hS, hbx⟩; try (replace huy := huy.below hbx)))
    | (go_at_call 9; ((with_reducible refine (lw_rreach HN.out (ls_of (by assumption))).mono ?_); rintro e w1 ⟨uy, rfl, huy, hS, hbx⟩; try (replace hux := hux.below hbx)))
    | (go_at_call 7; ((with_reducible refine (lw_ints (ls_of (by assumption)) HL1.out hux huy).mono ?_); rintro e w1 ⟨rfl, hS⟩)))
  clear hux huy hbx
  go_wp2_with fail
  go_region_held3 (fun W => W.cell? ⟨q, 0, none⟩ = some (.slice A G.nodes.length cap) ∧ W.cell? ⟨q, 1, none⟩ = some (.slice B G.roots.length cb) ∧ LW w W q (.slice A G.nodes.length cap) (.slice B G.roots.length cb) (.slice fA fr.length fc) G fr) (first | exact lw_S hS | exact lw_S hS.drew)
    (first
    | (go_at_call 10; ((with_reducible refine (lw_dead HN.out (ls_of (by assumption))).mono ?_); rintro e w1 ⟨ux, rfl, hux, hS, hbx⟩; try (replace huy := huy.below hbx)))
    | (go_at_call 11; ((with_reducible refine (lw_rdead HN.out (ls_of (by assumption))).mono ?_); rintro e w1 ⟨uy, rfl, huy, hS, hbx⟩; try (replace hux := hux.below hbx)))
    | (go_at_call 7; ((with_reducible refine (lw_ints (ls_of (by assumption)) HL2.out hux huy).mono ?_); rintro e w1 ⟨rfl, hS⟩)))
  clear hux huy hbx
  go_wp2_with fail
  go_region_held3 (fun W => W.cell? ⟨q, 0, none⟩ = some (.slice A G.nodes.length cap) ∧ W.cell? ⟨q, 1, none⟩ = some (.slice B G.roots.length cb) ∧ LW w W q (.slice A G.nodes.length cap) (.slice B G.roots.length cb) (.slice fA fr.length fc) G fr) (first | exact lw_S hS | exact lw_S hS.drew)
    (first
    | (go_at_call 12; ((with_reducible refine (lw_counts HN.out HP.out (ls_of (by assumption))).mono ?_); rintro e w1 ⟨ux, rfl, hux, hS, hbx⟩; try (replace huy := huy.below hbx)))
    | (go_at_call 13; ((with_reducible refine (lw_rcounts HN.out HP.out (ls_of (by assumption))).mono ?_); rintro e w1 ⟨uy, rfl, huy, hS, hbx⟩; try (replace hux := hux.below hbx)))
    | (go_at_call 7; ((with_reducible refine (lw_ints (ls_of (by assumption)) HL3.out hux huy).mono ?_); rintro e w1 ⟨rfl, hS⟩)))
  clear hux huy hbx
  go_wp2_with fail
  have cRg : ∀ W, LW w W q (.slice A G.nodes.length cap) (.slice B G.roots.length cb) (.slice fA fr.length fc) G fr → _ := fun W h => lw_right HN.out h
  have cRr : ∀ W, LW w W q (.slice A G.nodes.length cap) (.slice B G.roots.length cb) (.slice fA fr.length fc) G fr → _ := fun W h => lw_rright HN.out h
  generalize rightB G = rb at cRg cRr
  go_region_held3 (fun W => W.cell? ⟨q, 0, none⟩ = some (.slice A G.nodes.length cap) ∧ W.cell? ⟨q, 1, none⟩ = some (.slice B G.roots.length cb) ∧ LW w W q (.slice A G.nodes.length cap) (.slice B G.roots.length cb) (.slice fA fr.length fc) G fr) (first | exact lw_S hS | exact lw_S hS.drew)
    (first
    | (go_at_call 6; ((with_reducible refine (lw_alive (ls_of (by assumption))).mono ?_); rintro e w1 ⟨rfl, hS⟩))
    | (go_at_call 14; ((with_reducible refine (cRg _ (ls_of (by assumption))).mono ?_); rintro e w1 ⟨rfl, hS⟩))
    | (go_at_call 15; ((with_reducible refine (cRr _ (ls_of (by assumption))).mono ?_); rintro e w1 ⟨rfl, hS⟩)))
  go_wp2_with fail
  go_ret
  exact ⟨by simp, hS.below⟩
end Gr
end Go.Proofs.Ytngcncmpdlfbmaa
