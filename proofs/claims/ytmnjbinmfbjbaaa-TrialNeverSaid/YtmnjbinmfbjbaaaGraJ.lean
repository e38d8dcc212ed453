/- The program's Reach, Dead. -/
import Derived.Test.YtmnjbinmfbjbaaaGraI
namespace Go.Proofs.Ytmnjbinmfbjbaaa
namespace Gr
open Go.RowKit Go.Maps

theorem reach_filter {G : Gp} (hr : Ri G) (fr : List Int) : (ids G).filter (fun z => Rt.hasB (reachL G fr) z) = reachL G fr := by
  refine inc_ext (hr.inc.filter _) (reach_inc hr fr) (fun z => ?_)
  rw [List.mem_filter, Rt.hasB_iff]
  exact ⟨fun h => h.2, fun h => ⟨reach_ids h, h⟩⟩
theorem dead_inc {G : Gp} (hr : Ri G) : (deadL G).Pairwise (· < ·) := hr.inc.filter _
theorem dead_len {G : Gp} : (deadL G).length ≤ G.nodes.length := by
  have := List.length_filter_le (fun z => !Rt.hasB (reachL G G.roots) z) (ids G)
  rw [ids_length] at this
  exact this
theorem sort_dead {G : Gp} (hr : Ri G) {ss : List Int} {w : World} {m n : Nat} {D : DataW Value} (hown : w.ownsMap Try.prog 3 heldR m n D) (hh : ∀ z, Maps.has D (Rt.ky z) = (Rt.hasB (ids G) z && !Rt.hasB (reachL G G.roots) z)) (hp : ss.Perm (intKeys D)) :
    ss.length = (deadL G).length ∧ ss.mergeSort (fun x y => decide (x ≤ y)) = deadL G := by
  have hc : CollectedI D (fun _ => false) (deadL G) := by
    refine ⟨inc_nodup (dead_inc hr), fun x => ?_⟩
    rw [show (Lit.int .i64 x) = Rt.ky x from rfl, hh x]
    unfold deadL
    rw [List.mem_filter]
    simp [Rt.hasB_iff]
  have hp2 : ss.Perm (deadL G) := hp.trans (hc.perm hown Try.lawIntG Try.underlying3 (fun _ => rfl)).symm
  refine ⟨hp2.length_eq, ?_⟩
  have e1 := mergeSort_of_perm_i hp2
  have e2 : (deadL G).mergeSort leI = deadL G := List.mergeSort_of_pairwise ((dead_inc hr).imp (fun hab => by simp only [leI, decide_eq_true_eq]; omega))
  exact e1.trans e2

set_option maxRecDepth 100000 in
set_option maxHeartbeats 1600000 in
theorem preach_any (G : Gp) (fr : List Int) (w : World) (gv fv : Value) (hg : GrAt w gv G) (hf : Rd w fv fr) (hn : G.nodes.length ≤ 1000) :
    Calls Try.prog 20 #[gv, fv] w fun e w' => ∃ u, e = .returned u ∧ w'.ownsRow w.heap.size 3 1 u (reachA G fr).length (vals (reachA G fr)) ∧ Below w.heap.size w w' := by
  obtain ⟨A, cap, B, cb, rfl, h1, h2, h3⟩ := id hg
  obtain ⟨v0, q, hv0, hq, K, hb0, hs0⟩ := box_any w (.slice A G.nodes.length cap) (.slice B G.roots.length cb)
  have hw0 : Below w.heap.size w v0 := by rw [hq]; exact hb0
  have hg0 := hg.below hw0
  have H3 := Lib.hid h3
  have HF := Lib.hid (hf.below hw0)
  have HG0 := Lib.hid hg0
  have e0 := K.cell (i := 0) rfl
  have e1 := K.cell (i := 1) rfl
  have HK := Lib.hid K
  have HB0 := Lib.hid hb0
  have cR := pright_any G v0 _ hg0 hn
  clear h3 h2 K hb0 hg hf hg0 hw0
  cases hr : rightB G
  · rw [hr] at cR
    have HA : Aside (reachA G fr = []) := by show _ = _; simp [reachA, hr]
    clear hr
    go_enter Try.func20, Try.ntmps20
    go_wp2_with fail
    refine cR.mono ?_
    rintro e w1 ⟨rfl, hb1⟩
    have HB1 : Aside (Below v0.heap.size v0 w1) := hb1
    clear hb1 cR e0 e1
    go_wp2_with fail
    go_ret
    exact ⟨_, rfl, by rw [HA.out]; exact World.ownsRow_nil _ _ _ _, by rw [hq]; exact HB0.out.trans (HB1.out.mono (by omega))⟩
  · rw [hr] at cR
    have HA : Aside (reachA G fr = reachL G fr) := by show _ = _; simp [reachA, hr]
    have HRi := Lib.hid (rightB_ri hr)
    clear hr
    go_enter Try.func20, Try.ntmps20
    go_wp2_with fail
    refine cR.mono ?_
    rintro e w1 ⟨rfl, hb1⟩
    have HB1 : Aside (Below v0.heap.size v0 w1) := hb1
    clear hb1 cR e0 e1
    have k0 := (HK.out.below HB1.out (by omega)).cell (i := 0) rfl
    have k1 := (HK.out.below HB1.out (by omega)).cell (i := 1) rfl
    have cU := unreached_any G fr w1 _ _ (HG0.out.below HB1.out) (HF.out.below HB1.out) hn HRi.out
    go_wp2_with fail
    refine cU.mono ?_
    rintro e w2 ⟨vx, m, D, rfl, hL, hb2⟩
    have HB2 : Aside (Below v0.heap.size v0 w2) := below_more HB1.out hb2
    have HL : Aside (Lf vx G w2 m G.nodes.length (fun z => Rt.hasB (ids G) z && !Rt.hasB (reachL G fr) z) D) := hL
    clear cU hL hb2 k0 k1
    have hw2 : Below w.heap.size w w2 := by rw [hq]; exact HB0.out.trans (HB2.out.mono (by omega))
    have k0 := (HK.out.below HB2.out (by omega)).cell (i := 0) rfl
    have k1 := (HK.out.below HB2.out (by omega)).cell (i := 1) rfl
    have HW2 := Lib.hid hw2
    clear hw2
    go_wp2_with fail
    clear k0 k1
    go_loopg [6, 20] G.nodes.length (fun g s12 s13 wx => ∃ (j : Nat) (L : List Int), j + g = G.nodes.length ∧ s13 = .int .i64 j ∧ Aside (L = ((ids G).take j).filter (fun z => Rt.hasB (reachL G fr) z)) ∧ L.length ≤ j ∧ Aside (wx.ownsRow w2.heap.size 3 1 s12 L.length (vals L)) ∧ Aside (Below w2.heap.size w2 wx))
    case atStart => exact ⟨0, [], by omega, rfl, rfl, by simp, World.ownsRow_nil _ _ _ _, Below.refl _ _⟩
    case round =>
      obtain ⟨j, L, hj, rfl, hL, hlen, ho, hF⟩ := hrel
      have hbw := below_more HW2.out hF.out
      cases gk with
      | zero =>
        have : j = G.nodes.length := by omega
        subst this
        have HLL : Aside (L = reachA G fr) := by
          show _ = _
          rw [hL.out, HA.out, List.take_of_length_le (by rw [ids_length]; exact Nat.le_refl _)]
          exact reach_filter HRi.out fr
        have HBW := Lib.hid hbw
        clear hL hbw
        go_wp2_with fail
        go_ret
        exact ⟨_, rfl, by rw [← HLL.out]; exact row_low ho.out HW2.out.size, HBW.out⟩
      | succ g =>
        obtain ⟨x, hx⟩ : ∃ x, G.nodes[j]? = some x := ⟨_, List.getElem?_eq_getElem (by omega)⟩
        obtain ⟨hxo, b, o, C, cc, rfl, hbl, c1, c2, hrd⟩ := H3.out j x hx
        have hlt : (j : Int) < G.nodes.length := by omega
        have d1 := (hbw.cell (p := ⟨b, _, none⟩) hbl).trans c1
        have d2 := (hbw.cell (p := ⟨b, _, none⟩) hbl).trans c2
        have hxi : Rt.hasB (ids G) x.id = true := Rt.hasB_iff.2 (List.mem_map.2 ⟨x, List.mem_of_getElem? hx, rfl⟩)
        have HB3 : Aside (Below w2.heap.size w2 (wr.alloc (.cells #[.int .i64 x.id, .slice C x.out.length cc] 38))) := hF.out.alloc hF.out.size _
        obtain ⟨v, hlk, _⟩ := (HL.out.below HB3.out).look hxo
        have HT : Aside (((ids G).take (j + 1)).filter (fun z => Rt.hasB (reachL G fr) z) = L ++ (if Rt.hasB (reachL G fr) x.id then [x.id] else [])) := by
          show _ = _
          rw [filter_take (ids_at hx), hL.out]
        have hsz' := hF.out.size
        simp only [hxi, Bool.true_and] at hlk
        clear hx hxo c1 c2 hrd hL hbw hxi
        generalize Rt.hasB (reachL G fr) x.id = hv at *
        cases hv
        · simp only [Bool.not_false] at hlk
          go_wp2_with fail
          go_roundg g
          case measure => omega
          case rel => exact ⟨j + 1, L, by omega, by go_num, by show _ = _; rw [HT.out]; simp, by omega, ho.out.alloc _, HB3.out⟩
        · simp only [Bool.not_true] at hlk
          go_wp2_with (at_builtin; refine wpList_append_i _ rfl _ _ rfl w2.heap.size _ L rfl ((ho.out.alloc _).alloc _) _ 1 x.id rfl (one_int_at2 _ _ _) (by omega) (by first | omega | (simp; omega)) ?_; intro v1 w4 hown1 hb1; have O1 : Aside (w4.ownsRow w2.heap.size 3 1 v1 (L ++ [x.id]).length (vals (L ++ [x.id]))) := hown1; have B1 : Aside (Below w2.heap.size w2 w4) := (HB3.out.alloc (by first | omega | (simp; omega)) _).trans hb1; clear hown1 hb1 d1 d2 hlk)
          go_roundg g
          case measure => omega
          case rel => exact ⟨j + 1, L ++ [x.id], by omega, by go_num, by show _ = _; rw [HT.out]; simp, by simp; omega, O1.out, B1.out⟩

end Gr
end Go.Proofs.Ytmnjbinmfbjbaaa
