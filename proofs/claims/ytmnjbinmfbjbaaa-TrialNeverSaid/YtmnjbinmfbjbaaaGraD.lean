/- The document's Right; Times. -/
import Derived.Test.YtmnjbinmfbjbaaaGraC
namespace Go.Proofs.Ytmnjbinmfbjbaaa
namespace Gr
open Go.RowKit Go.Maps

theorem drop_nodes {G : Gp} {j : Nat} {n : Nd} (h : G.nodes[j]? = some n) : G.nodes.drop j = n :: G.nodes.drop (j + 1) := by
  obtain ⟨hj, rfl⟩ := List.getElem?_eq_some_iff.1 h
  exact List.drop_eq_getElem_cons hj
theorem Rd.row {w : World} {base : Nat} {u : Value} {L : List Int} (h : w.ownsRow base 3 1 u L.length (vals L)) (ho : ∀ x ∈ L, i64ok x) : Rd w u L := Rd.of_own (Own.of h).1 ho

set_option maxRecDepth 100000 in
set_option maxHeartbeats 1600000 in
theorem rright_any (G : Gp) (w : World) (gv : Value) (hg : GrAt w gv G) (hn : G.nodes.length ≤ 4398046511103) :
    Calls Try.prog 14 #[gv] w fun e w' => e = .returned (.bool (rightB G)) ∧ Below w.heap.size w w' := by
  have hio := hg.ids_ok
  obtain ⟨A, cap, B, cb, rfl, h1, h2, h3⟩ := id hg
  obtain ⟨v0, q, hv0, hq, K, hb0, hs0⟩ := box_any w (.slice A G.nodes.length cap) (.slice B G.roots.length cb)
  have hg0 := hg.below (by rw [hq]; exact hb0 : Below w.heap.size w v0)
  have H3 := Lib.hid h3
  have H2 := Lib.hid h2
  have e0 := K.cell (i := 0) rfl
  have e1 := K.cell (i := 1) rfl
  have HK := Lib.hid K
  have HB0 := Lib.hid hb0
  have HI := Lib.hid hio
  clear h3 h2 K hb0 hg hio
  go_enter Try.func14, Try.ntmps14
  go_wp2_with fail
  refine (rids_any G v0 _ hg0 hn).mono ?_
  rintro e w1 ⟨u, rfl, hu, hb1⟩
  have HU : Aside (Rd w1 u (ids G)) := Rd.row hu HI.out
  have HB1 : Aside (Below v0.heap.size v0 w1) := hb1
  clear hu hb1 e0 e1
  have k0 := (HK.out.below HB1.out (by omega)).cell (i := 0) rfl
  have k1 := (HK.out.below HB1.out (by omega)).cell (i := 1) rfl
  have hw1 : Below w.heap.size w w1 := by rw [hq]; exact HB0.out.trans (HB1.out.mono (by omega))
  have HW1 := Lib.hid hw1
  clear hw1 hg0
  go_wp2_with fail
  go_loopg [4] G.nodes.length (fun g s4 wr => ∃ (j : Nat), j + g = G.nodes.length ∧ s4 = .int .i64 j ∧ Aside ((G.nodes.drop j).all (fun n => withinB n.out (ids G)) = G.nodes.all (fun n => withinB n.out (ids G))) ∧ w1 = wr)
  case atStart => exact ⟨0, by omega, rfl, rfl, rfl⟩
  case round =>
    obtain ⟨j, hj, rfl, hr, rfl⟩ := hrel
    cases gk with
    | succ g =>
      obtain ⟨x, hx⟩ : ∃ x, G.nodes[j]? = some x := ⟨_, List.getElem?_eq_getElem (by omega)⟩
      obtain ⟨hxo, b, o, C, cc, rfl, hbl, c1, c2, hrd⟩ := H3.out j x hx
      have d1 := (HW1.out.cell (p := ⟨b, _, none⟩) hbl).trans c1
      have d2 := (HW1.out.cell (p := ⟨b, _, none⟩) hbl).trans c2
      have hlt : (j : Int) < G.nodes.length := by omega
      have HR : Aside ((withinB x.out (ids G) && (G.nodes.drop (j + 1)).all (fun n => withinB n.out (ids G))) = G.nodes.all (fun n => withinB n.out (ids G))) := by
        have := hr.out
        rw [drop_nodes hx] at this
        exact this
      have hc := within_any x.out (ids G) w1 _ u (hrd.below HW1.out) HU.out
      clear hr hx c1 c2 hxo hrd
      cases hb : withinB x.out (ids G)
      · rw [hb] at hc
        go_wp2_with (go_at_call 28; refine hc.mono ?_; rintro e w2 ⟨rfl, rfl⟩)
        go_ret
        exact ⟨ret_bool (by unfold rightB; rw [← HR.out, hb]; rfl), HW1.out⟩
      · rw [hb] at hc
        go_wp2_with (go_at_call 28; refine hc.mono ?_; rintro e w2 ⟨rfl, rfl⟩)
        go_roundg g
        case measure => omega
        case rel => exact ⟨j + 1, by omega, by go_num, by show _ = _; rw [← HR.out, hb]; rfl, rfl⟩
    | zero =>
      have : j = G.nodes.length := by omega
      subst this
      have HR : Aside (true = G.nodes.all (fun n => withinB n.out (ids G))) := by
        have := hr.out
        rw [List.drop_length] at this
        exact this
      clear hr
      have hlt : ¬ ((G.nodes.length : Int) < G.nodes.length) := by omega
      have c1 := rrise_any (ids G) w1 u HU.out
      go_wp2_with fail
      refine c1.mono ?_
      rintro e w2 ⟨rfl, hb2⟩
      have m0 := (hb2.cell (p := ⟨q, 0, none⟩) (World.block_lt_of_cell? _ _ k0)).trans k0
      have m1 := (hb2.cell (p := ⟨q, 1, none⟩) (World.block_lt_of_cell? _ _ k1)).trans k1
      have hw2 := below_more HW1.out hb2
      have c2 := rrise_any G.roots w2 _ (H2.out.below hw2)
      have hu2 := HU.out.below hb2
      have HW2 := Lib.hid hw2
      have HU2 := Lib.hid hu2
      clear hb2 hw2 k0 k1 hu2
      go_wp2_with fail
      refine c2.mono ?_
      rintro e w3 ⟨rfl, hb3⟩
      have n0 := (hb3.cell (p := ⟨q, 0, none⟩) (World.block_lt_of_cell? _ _ m0)).trans m0
      have n1 := (hb3.cell (p := ⟨q, 1, none⟩) (World.block_lt_of_cell? _ _ m1)).trans m1
      have hw3 := below_more HW2.out hb3
      have c3 := within_any G.roots (ids G) w3 _ u (H2.out.below hw3) (HU2.out.below hb3)
      have HW3 := Lib.hid hw3
      clear hb3 hw3 m0 m1 c1 c2
      go_wp2_with fail
      refine c3.mono ?_
      rintro e w4 ⟨rfl, rfl⟩
      have HE : Aside ((riseF (-1) (ids G) && riseF (-1) G.roots && withinB G.roots (ids G)) = rightB G) := by
        show _ = _
        unfold rightB
        rw [← HR.out]
        rfl
      clear c3
      generalize riseF (-1) (ids G) = a1 at *
      generalize riseF (-1) G.roots = a2 at *
      generalize withinB G.roots (ids G) = a3 at *
      cases a1 <;> cases a2 <;> cases a3 <;> (go_wp2_with fail; go_ret; exact ⟨ret_bool HE.out, HW3.out⟩)

set_option maxRecDepth 100000 in
set_option maxHeartbeats 800000 in
theorem times_any (l : List Int) (x : Int) (w : World) (u : Value) (hu : Rd w u l) (hl : l.length ≤ 100000) :
    Calls Try.prog 25 #[u, .int .i64 x] w fun e w' => e = .returned (.int .i64 (l.count x)) ∧ w = w' := by
  obtain ⟨_, A, cap, rfl, hc1, hc2, ha⟩ := hu
  have HA := Lib.hid ha
  clear ha
  go_enter Try.func25, Try.ntmps25
  go_wp2_with fail
  go_loopg [5, 6] l.length (fun g s5 s6 wr => ∃ (j c : Nat), j + g = l.length ∧ s6 = .int .i64 j ∧ s5 = .int .i64 c ∧ c ≤ j ∧ Aside (c = (l.take j).count x) ∧ w = wr)
  case atStart => exact ⟨0, 0, by omega, rfl, rfl, by omega, rfl, rfl⟩
  case round =>
    obtain ⟨j, c, hj, rfl, rfl, hcj, hc, rfl⟩ := hrel
    cases gk with
    | zero =>
      have : j = l.length := by omega
      subst this
      have hc' := hc.out
      rw [List.take_length] at hc'
      have HC := Lib.hid hc'
      clear hc' hc
      go_wp2_with fail
      go_ret
      exact ⟨ret_int (by rw [← HC.out]), rfl⟩
    | succ g =>
      obtain ⟨z, hz⟩ : ∃ z, l[j]? = some z := ⟨_, List.getElem?_eq_getElem (by omega)⟩
      obtain ⟨b, o, rfl, _, hg⟩ := HA.out j z hz
      have hlt : (j : Int) < l.length := by omega
      have HT : Aside ((l.take (j + 1)).count x = c + if z = x then 1 else 0) := by
        show _ = _
        obtain ⟨hj, rfl⟩ := List.getElem?_eq_some_iff.1 hz
        rw [List.take_succ_eq_append_getElem hj, List.count_append, ← hc.out]
        simp [List.count_singleton]
      clear hz hc
      by_cases he : z = x
      · subst he
        go_wp2_with fail
        go_roundg g
        case measure => omega
        case rel => exact ⟨j + 1, c + 1, by omega, by go_num, by go_num, by omega, by show _ = _; rw [HT.out]; simp, rfl⟩
      · go_wp2_with fail
        go_roundg g
        case measure => omega
        case rel => exact ⟨j + 1, c, by omega, by go_num, rfl, by omega, by show _ = _; rw [HT.out]; simp [he], rfl⟩
end Gr
end Go.Proofs.Ytmnjbinmfbjbaaa
