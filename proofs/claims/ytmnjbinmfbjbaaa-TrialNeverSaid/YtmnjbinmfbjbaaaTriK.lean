/- TrialTells, as a call. -/
import Derived.Test.YtmnjbinmfbjbaaaTriJ
namespace Go.Proofs.Ytmnjbinmfbjbaaa
namespace Tr
open Go.RowKit Go.Maps Gr

/-- A law's world: the box at q with the graph; the counts, the candidates. -/
structure LT (w0 w : World) (q : Nat) (nv rv kv cv : Value) (G : Gp) (k c : List Int) : Prop where
  box : Blk w q 25 [nv, rv]
  gr : GrAt w (.agg #[nv, rv]) G
  rk : Rd w kv k
  rc : Rd w cv c
  below : Below w0.heap.size w0 w
theorem grayA_len {G : Gp} {c : List Int} : (grayA G c).length ≤ G.nodes.length := by
  unfold grayA
  split
  · exact reachA_len
  · simp
theorem restsA_len {G : Gp} {k c : List Int} : (restsA G k c).length ≤ G.nodes.length := by
  unfold restsA
  split
  · unfold restsL; rw [List.length_map]; exact reach_len _
  · simp
theorem whiteA_len {G : Gp} {k c : List Int} : (whiteA G k c).length ≤ G.nodes.length := by
  unfold whiteA
  split
  · unfold whiteL; exact Nat.le_trans (List.length_filter_le _ _) (reach_len _)
  · simp
section
variable {w0 w w' : World} {q : Nat} {nv rv kv cv u y : Value} {G : Gp} {k c L : List Int}
theorem LT.more (h : LT w0 w q nv rv kv cv G k c) (hb : Below w.heap.size w w') : LT w0 w' q nv rv kv cv G k c := ⟨h.box.below hb h.box.lt, h.gr.below hb, h.rk.below hb, h.rc.below hb, below_more h.below hb⟩
theorem LT.drew (h : LT w0 w q nv rv kv cv G k c) : LT w0 w.drew q nv rv kv cv G k c := h.more (below_drew w)
theorem lt_of (h : w.cell? ⟨q, 0, none⟩ = some nv ∧ w.cell? ⟨q, 1, none⟩ = some rv ∧ LT w0 w q nv rv kv cv G k c) : LT w0 w q nv rv kv cv G k c := h.2.2
theorem lt_S (h : LT w0 w q nv rv kv cv G k c) : w.cell? ⟨q, 0, none⟩ = some nv ∧ w.cell? ⟨q, 1, none⟩ = some rv ∧ LT w0 w q nv rv kv cv G k c := ⟨h.box.cell rfl, h.box.cell rfl, h⟩
variable (hn : G.nodes.length ≤ 1000) (hO : ∀ n ∈ G.nodes, n.out.length ≤ 100000)
include hn in
theorem lt_gray (h : LT w0 w q nv rv kv cv G k c) : Calls Try.prog 8 #[.agg #[nv, rv], cv] w fun e w' => ∃ u, e = .returned u ∧ Own w' u (grayA G c) ∧ LT w0 w' q nv rv kv cv G k c ∧ Below w.heap.size w w' :=
  (pgray_any G c w _ _ h.gr h.rc hn).mono fun _ _ ⟨u, he, hu, hb⟩ => ⟨u, he, (Own.of hu).1, h.more hb, hb⟩
include hn in
theorem lt_rgray (h : LT w0 w q nv rv kv cv G k c) : Calls Try.prog 9 #[.agg #[nv, rv], cv] w fun e w' => ∃ u, e = .returned u ∧ Own w' u (grayA G c) ∧ LT w0 w' q nv rv kv cv G k c ∧ Below w.heap.size w w' :=
  (rgray_any G c w _ _ h.gr h.rc hn).mono fun _ _ ⟨u, he, hu, hb⟩ => ⟨u, he, (Own.of hu).1, h.more hb, hb⟩
include hn in
theorem lt_rests (h : LT w0 w q nv rv kv cv G k c) : Calls Try.prog 10 #[.agg #[nv, rv], kv, cv] w fun e w' => ∃ u, e = .returned u ∧ Own w' u (restsA G k c) ∧ LT w0 w' q nv rv kv cv G k c ∧ Below w.heap.size w w' :=
  (prests_any G k c w _ _ _ h.gr h.rk h.rc hn).mono fun _ _ ⟨u, he, hu, hb⟩ => ⟨u, he, (Own.of hu).1, h.more hb, hb⟩
include hn hO in
theorem lt_rrests (h : LT w0 w q nv rv kv cv G k c) : Calls Try.prog 11 #[.agg #[nv, rv], kv, cv] w fun e w' => ∃ u, e = .returned u ∧ Own w' u (restsA G k c) ∧ LT w0 w' q nv rv kv cv G k c ∧ Below w.heap.size w w' :=
  (rrests_any G k c w _ _ _ h.gr h.rk h.rc hn hO).mono fun _ _ ⟨u, he, hu, hb⟩ => ⟨u, he, (Own.of hu).1, h.more hb, hb⟩
include hn in
theorem lt_white (h : LT w0 w q nv rv kv cv G k c) : Calls Try.prog 12 #[.agg #[nv, rv], kv, cv] w fun e w' => ∃ u, e = .returned (.tuple #[u, .int .i64 (whiteE G k c)]) ∧ Own w' u (whiteA G k c) ∧ LT w0 w' q nv rv kv cv G k c ∧ Below w.heap.size w w' :=
  (pwhite_any G k c w _ _ _ h.gr h.rk h.rc hn).mono fun _ _ ⟨u, he, hu, hb⟩ => ⟨u, he, (Own.of hu).1, h.more hb, hb⟩
include hn hO in
theorem lt_rwhite (h : LT w0 w q nv rv kv cv G k c) : Calls Try.prog 13 #[.agg #[nv, rv], kv, cv] w fun e w' => ∃ u, e = .returned (.tuple #[u, .int .i64 (whiteE G k c)]) ∧ Own w' u (whiteA G k c) ∧ LT w0 w' q nv rv kv cv G k c ∧ Below w.heap.size w w' :=
  (rwhite_any G k c w _ _ _ h.gr h.rk h.rc hn hO).mono fun _ _ ⟨u, he, hu, hb⟩ => ⟨u, he, (Own.of hu).1, h.more hb, hb⟩
theorem lt_fits (h : LT w0 w q nv rv kv cv G k c) : Calls Try.prog 5 #[.agg #[nv, rv]] w fun e w' => e = .returned (.bool (fitsB G)) ∧ LT w0 w' q nv rv kv cv G k c :=
  (fits_any G w _ h.gr).mono fun _ _ ⟨he, hb⟩ => ⟨he, h.more hb⟩
theorem lt_alive (h : LT w0 w q nv rv kv cv G k c) : Calls Try.prog 6 #[] w fun e w' => e = .returned (.bool true) ∧ LT w0 w' q nv rv kv cv G k c :=
  (alive11_any w).mono fun _ _ ⟨he, hb⟩ => ⟨he, h.more hb⟩
theorem lt_ints (h : LT w0 w q nv rv kv cv G k c) (hl : L.length ≤ 1000) (hu : Own w u L) (hy : Own w y L) : Calls Try.prog 7 #[u, y] w fun e w' => e = .returned (.bool true) ∧ LT w0 w' q nv rv kv cv G k c :=
  (ints_any L hl w u y hu hy).mono fun _ _ ⟨he, hb⟩ => ⟨he, h.more hb⟩
end

set_option maxRecDepth 100000 in
set_option maxHeartbeats 3200000 in
theorem tells11_any (G : Gp) (k c : List Int) (w : World) (gv kv cv : Value) (hg : GrAt w gv G) (hk : Rd w kv k) (hc : Rd w cv c) :
    Calls Try.prog 3 #[gv, kv, cv] w fun e w' => e = .returned (.bool true) ∧ Below w.heap.size w w' := by
  obtain ⟨A, cap, B, cb, rfl, h1, h2, h3⟩ := id hg
  obtain ⟨kA, kc, rfl⟩ : ∃ kA kc, kv = .slice kA k.length kc := by
    obtain ⟨_, kA, kc, e, _⟩ := hk
    exact ⟨kA, kc, e⟩
  obtain ⟨cA, cc, rfl⟩ : ∃ cA cc, cv = .slice cA c.length cc := by
    obtain ⟨_, cA, cc, e, _⟩ := hc
    exact ⟨cA, cc, e⟩
  have hkl : k.length ≤ 9223372036854775807 := by
    obtain ⟨_, _, _, e, h4, h5, _⟩ := hk
    omega
  have hcl : c.length ≤ 9223372036854775807 := by
    obtain ⟨_, _, _, e, h4, h5, _⟩ := hc
    omega
  obtain ⟨v0, q, hv0, hq, K, hb0, hs0⟩ := box_any w (.slice A G.nodes.length cap) (.slice B G.roots.length cb)
  have hw0 : Below w.heap.size w v0 := by rw [hq]; exact hb0
  have L0 : LT w v0 q (.slice A G.nodes.length cap) (.slice B G.roots.length cb) (.slice kA k.length kc) (.slice cA c.length cc) G k c := ⟨K, hg.below hw0, hk.below hw0, hc.below hw0, hw0⟩
  obtain ⟨c0, c1, _⟩ := lt_S L0
  have cF := lt_fits L0
  clear K hb0 hw0 hs0 h1 h2 h3 hg hk hc
  cases hF : fitsB G
  · rw [hF] at cF
    go_enter Try.func3, Try.ntmps3
    go_wp2_with fail
    refine cF.mono ?_
    rintro e w1 ⟨rfl, L1⟩
    clear c0 c1 cF
    have cA := lt_alive L1
    go_wp2_with fail
    refine cA.mono ?_
    rintro e w2 ⟨rfl, L2⟩
    go_wp2_with fail
    go_ret
    exact ⟨rfl, L2.below⟩
  rw [hF] at cF
  by_cases hkr : 60 < k.length
  · have hkb : decide (60 < k.length) = true := by simpa using hkr
    go_enter Try.func3, Try.ntmps3
    go_wp2_with fail
    refine cF.mono ?_
    rintro e w1 ⟨rfl, L1⟩
    clear c0 c1 cF
    have cA := lt_alive L1
    go_wp2_with fail
    refine cA.mono ?_
    rintro e w2 ⟨rfl, L2⟩
    go_wp2_with fail
    go_ret
    exact ⟨rfl, L2.below⟩
  have hkb : decide (60 < k.length) = false := by simpa using hkr
  by_cases hcr : 60 < c.length
  · have hcb : decide (60 < c.length) = true := by simpa using hcr
    go_enter Try.func3, Try.ntmps3
    go_wp2_with fail
    refine cF.mono ?_
    rintro e w1 ⟨rfl, L1⟩
    clear c0 c1 cF
    have cA := lt_alive L1
    go_wp2_with fail
    refine cA.mono ?_
    rintro e w2 ⟨rfl, L2⟩
    go_wp2_with fail
    go_ret
    exact ⟨rfl, L2.below⟩
  have hcb : decide (60 < c.length) = false := by simpa using hcr
  obtain ⟨hn, hR, ho, hP⟩ := fits_facts hF
  have HN : Aside (G.nodes.length ≤ 1000) := by show _ ≤ _; omega
  have HO : Aside (∀ n ∈ G.nodes, n.out.length ≤ 100000) := fun n hn => by have := ho n hn; omega
  have HL1 : Aside ((grayA G c).length ≤ 1000) := by have := grayA_len (G := G) (c := c); show _ ≤ _; omega
  have HL2 : Aside ((restsA G k c).length ≤ 1000) := by have := restsA_len (G := G) (k := k) (c := c); show _ ≤ _; omega
  have HL3 : Aside ((whiteA G k c).length ≤ 1000) := by have := whiteA_len (G := G) (k := k) (c := c); show _ ≤ _; omega
  clear hn hR hP hF ho
  go_enter Try.func3, Try.ntmps3
  go_wp2_with fail
  refine cF.mono ?_
  rintro e w1 ⟨rfl, hS⟩
  clear c0 c1 cF L0 hv0
  go_wp2_with fail
  go_region_held3 (fun W => W.cell? ⟨q, 0, none⟩ = some (.slice A G.nodes.length cap) ∧ W.cell? ⟨q, 1, none⟩ = some (.slice B G.roots.length cb) ∧ LT w W q (.slice A G.nodes.length cap) (.slice B G.roots.length cb) (.slice kA k.length kc) (.slice cA c.length cc) G k c) (first | exact lt_S hS | exact lt_S hS.drew)
    (first
    | (go_at_call 8; ((with_reducible refine (lt_gray HN.out (lt_of (by assumption))).mono ?_); rintro e w1 ⟨ux, rfl, hux, hS, hbx⟩; try (replace huy := huy.below hbx)))
    | (go_at_call 9; ((with_reducible refine (lt_rgray HN.out (lt_of (by assumption))).mono ?_); rintro e w1 ⟨uy, rfl, huy, hS, hbx⟩; try (replace hux := hux.below hbx)))
    | (go_at_call 7; ((with_reducible refine (lt_ints (lt_of (by assumption)) HL1.out hux huy).mono ?_); rintro e w1 ⟨rfl, hS⟩)))
  clear hux huy hbx
  go_wp2_with fail
  go_region_held3 (fun W => W.cell? ⟨q, 0, none⟩ = some (.slice A G.nodes.length cap) ∧ W.cell? ⟨q, 1, none⟩ = some (.slice B G.roots.length cb) ∧ LT w W q (.slice A G.nodes.length cap) (.slice B G.roots.length cb) (.slice kA k.length kc) (.slice cA c.length cc) G k c) (first | exact lt_S hS | exact lt_S hS.drew)
    (first
    | (go_at_call 10; ((with_reducible refine (lt_rests HN.out (lt_of (by assumption))).mono ?_); rintro e w1 ⟨ux, rfl, hux, hS, hbx⟩; try (replace huy := huy.below hbx)))
    | (go_at_call 11; ((with_reducible refine (lt_rrests HN.out HO.out (lt_of (by assumption))).mono ?_); rintro e w1 ⟨uy, rfl, huy, hS, hbx⟩; try (replace hux := hux.below hbx)))
    | (go_at_call 7; ((with_reducible refine (lt_ints (lt_of (by assumption)) HL2.out hux huy).mono ?_); rintro e w1 ⟨rfl, hS⟩)))
  clear hux huy hbx
  obtain ⟨c0, c1, _⟩ := lt_S hS
  have cW := lt_white HN.out hS
  go_wp2_with fail
  refine cW.mono ?_
  rintro e w4 ⟨u1, rfl, hu1, L4, _⟩
  clear cW c0 c1
  obtain ⟨c0, c1, _⟩ := lt_S L4
  have cW := lt_rwhite HN.out HO.out L4
  go_wp2_with fail
  refine cW.mono ?_
  rintro e w5 ⟨u2, rfl, hu2, L5, hb5⟩
  have cI := lt_ints L5 HL3.out (hu1.below hb5) hu2
  clear cW c0 c1 hb5 L4 hu1 hu2
  go_wp2_with fail
  refine cI.mono ?_
  rintro e w6 ⟨rfl, L6⟩
  have cA := lt_alive L6
  clear cI L5
  go_wp2_with fail
  refine cA.mono ?_
  rintro e w7 ⟨rfl, L7⟩
  generalize whiteE G k c = ee at *
  go_wp2_with fail
  go_ret
  exact ⟨by simp, L7.below⟩
end Tr
end Go.Proofs.Ytmnjbinmfbjbaaa
