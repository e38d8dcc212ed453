/- The document's White. -/
import Derived.Test.YtmnjbinmfbjbaaaTriH
namespace Go.Proofs.Ytmnjbinmfbjbaaa
namespace Tr
open Go.RowKit Go.Maps Gr

set_option maxRecDepth 100000 in
set_option maxHeartbeats 3200000 in
theorem rwhite_any (G : Gp) (k c : List Int) (w : World) (gv kv cv : Value) (hg : GrAt w gv G) (hk : Rd w kv k) (hc : Rd w cv c) (hn : G.nodes.length ≤ 1000) (hO : ∀ n ∈ G.nodes, n.out.length ≤ 100000) :
    Calls Try.prog 13 #[gv, kv, cv] w fun e w' => ∃ u, e = .returned (.tuple #[u, .int .i64 (whiteE G k c)]) ∧ w'.ownsRow w.heap.size 3 1 u (whiteA G k c).length (vals (whiteA G k c)) ∧ Below w.heap.size w w' := by
  have hio := hg.ids_ok
  obtain ⟨A, cap, B, cb, rfl, h1, h2, h3⟩ := id hg
  obtain ⟨v0, q, hv0, hq, K, hb0, hs0⟩ := box_any w (.slice A G.nodes.length cap) (.slice B G.roots.length cb)
  have hw0 : Below w.heap.size w v0 := by rw [hq]; exact hb0
  have hg0 := hg.below hw0
  have HG0 := Lib.hid hg0
  have HC0 := Lib.hid (hc.below hw0)
  have HK0 := Lib.hid (hk.below hw0)
  have HW0 := Lib.hid hw0
  have HI := Lib.hid hio
  have HOl := Lib.hid hO
  have keep : ∀ wx : World, Below v0.heap.size v0 wx → wx.cell? ⟨q, 0, none⟩ = some (.slice A G.nodes.length cap) ∧ wx.cell? ⟨q, 1, none⟩ = some (.slice B G.roots.length cb) ∧ Below w.heap.size w wx := fun wx h =>
    ⟨(K.below h (by omega)).cell (i := 0) rfl, (K.below h (by omega)).cell (i := 1) rfl, below_more hw0 h⟩
  have KP := Lib.hid keep
  obtain ⟨k0, k1, _⟩ := keep _ (Below.refl _ v0)
  have cT := rtright_any G k c v0 _ _ _ hg0 (hk.below hw0) (hc.below hw0) hn
  clear h3 h2 K hb0 hg hk hc hg0 hw0 keep hio hO
  go_enter Try.func13, Try.ntmps13
  cases ht : trialB G k c
  · rw [ht] at cT
    have HA : Aside (whiteA G k c = [] ∧ whiteE G k c = 1) := ⟨by simp [whiteA, ht], by simp [whiteE, ht]⟩
    clear ht
    go_wp2_with fail
    refine cT.mono ?_
    rintro e w1 ⟨rfl, hb1⟩
    have HB1 : Aside (Below w.heap.size w w1) := below_more HW0.out hb1
    clear hb1 cT k0 k1
    go_wp2_with fail
    go_ret2
    exact ⟨_, by rw [HA.out.2]; rfl, by rw [HA.out.1]; exact World.ownsRow_nil _ _ _ _, HB1.out⟩
  · rw [ht] at cT
    have HA : Aside (whiteA G k c = whiteL G k (reachL G c) ∧ whiteE G k c = 0) := ⟨by simp [whiteA, ht], by simp [whiteE, ht]⟩
    have HGA := Lib.hid (grayA_trial ht)
    have HRS : Aside (restsA G k c = restsL G k (reachL G c)) := by show _ = _; simp [restsA, ht]
    obtain ⟨t1, _, _, _⟩ := trialB_facts ht
    have HRA : Aside (∀ c, reachA G c = reachL G c) := fun c => reachA_right t1
    clear ht t1
    go_wp2_with fail
    refine cT.mono ?_
    rintro e w1 ⟨rfl, hb1⟩
    have HB1 : Aside (Below v0.heap.size v0 w1) := hb1
    clear hb1 cT k0 k1
    obtain ⟨k0, k1, _⟩ := KP.out _ HB1.out
    have cR := rgray_any G c w1 _ _ (HG0.out.below HB1.out) (HC0.out.below HB1.out) hn
    rw [HGA.out] at cR
    go_wp2_with fail
    refine cR.mono ?_
    rintro e w2 ⟨u, rfl, hu, hb2⟩
    have HB2 : Aside (Below v0.heap.size v0 w2) := below_more HB1.out hb2
    obtain ⟨yl, hyl⟩ : ∃ L, reachL G c = L := ⟨_, rfl⟩
    have hrd : Rd w2 u (reachL G c) := Rd.row hu (reach_ok HI.out)
    have hlen := reach_len (G := G) c
    rw [hyl] at hrd hlen
    have HYL := Lib.hid hyl
    have HRD := Lib.hid hrd
    clear hu hb2 cR k0 k1 hrd hyl
    obtain ⟨k0, k1, _⟩ := KP.out _ HB2.out
    have cS := rrests_any G k c w2 _ _ _ (HG0.out.below HB2.out) (HK0.out.below HB2.out) (HC0.out.below HB2.out) hn HOl.out
    rw [HRS.out, HYL.out] at cS
    go_wp2_with fail
    refine cS.mono ?_
    rintro e w3 ⟨ur, rfl, hur, hb3⟩
    have HB3 : Aside (Below v0.heap.size v0 w3) := below_more HB2.out hb3
    have hrr : Rd w3 ur (yl.map (restV G k yl)) := Rd.row hur (fun x hx => by
      obtain ⟨y, _, rfl⟩ := List.mem_map.1 hx
      exact wrap64_ok _)
    obtain ⟨hyo, yA, yc, rfl, hy1, hy2, hy3⟩ := HRD.out.below hb3
    obtain ⟨_, rA, rc, rfl, hr1, hr2, hr3⟩ := hrr
    simp only [List.length_map] at hr1 ⊢
    have HY3 := Lib.hid hy3
    have HYO := Lib.hid hyo
    have HR3 := Lib.hid hr3
    clear cS hur hb3 k0 k1 hy3 hyo hr3
    go_wp2_with fail
    go_loopg [11, 12] yl.length (fun g s11 s12 wx => ∃ (j : Nat) (L : List Int), j + g = yl.length ∧ s12 = .int .i64 j ∧ Aside (L = (yl.take j).filter (fun z => decide (0 < restV G k yl z))) ∧ L.length ≤ j ∧ Aside (wx.ownsRow w3.heap.size 3 1 s11 L.length (vals L)) ∧ Aside (Below w3.heap.size w3 wx))
    case atStart => exact ⟨0, [], by omega, rfl, rfl, by simp, World.ownsRow_nil _ _ _ _, Below.refl _ _⟩
    case round =>
      obtain ⟨j, L, hj, rfl, hL, hLl, ho, hF⟩ := hrel
      cases gk with
      | succ g =>
        obtain ⟨z, hz⟩ : ∃ z, yl[j]? = some z := ⟨_, List.getElem?_eq_getElem (by omega)⟩
        obtain ⟨b, o, rfl, hbl, hc⟩ := HY3.out j z hz
        have hrz : (yl.map (restV G k yl))[j]? = some (restV G k yl z) := by rw [List.getElem?_map, hz]; rfl
        obtain ⟨b', o', rfl, hbl', hc'⟩ := HR3.out j _ hrz
        have d1 := (hF.out.cell (p := ⟨b, _, none⟩) hbl).trans hc
        have d2 := (hF.out.cell (p := ⟨b', _, none⟩) hbl').trans hc'
        have hlt : (j : Int) < yl.length := by omega
        obtain ⟨a, ha⟩ : ∃ a, restV G k yl z = a := ⟨_, rfl⟩
        rw [ha] at d2
        have HT : Aside ((yl.take (j + 1)).filter (fun z => decide (0 < restV G k yl z)) = L ++ if decide (0 < a) then [z] else []) := by
          show _ = _
          rw [filter_snoc _ hz, hL.out, ← ha]
        have hsz := hF.out.size
        clear hz hc hbl ha hL hrz hbl' hc'
        by_cases ha0 : 0 < a
        · go_wp2_with (at_builtin; refine wpList_append_i _ rfl _ _ rfl w3.heap.size _ L rfl (ho.out.alloc _) _ 1 z rfl (one_int_at _ _) (by omega) (by first | omega | (simp; omega)) ?_; intro v1 w6 hown1 hb1; have O1 : Aside (w6.ownsRow w3.heap.size 3 1 v1 (L ++ [z]).length (vals (L ++ [z]))) := hown1; have B1 : Aside (Below w3.heap.size w3 w6) := (hF.out.alloc hsz _).trans hb1; clear hown1 hb1 d1 d2)
          go_roundg g
          case measure => omega
          case rel => exact ⟨j + 1, L ++ [z], by omega, by go_num, by show _ = _; rw [HT.out]; simp [ha0], by simp; omega, O1.out, B1.out⟩
        · go_wp2_with fail
          go_roundg g
          case measure => omega
          case rel => exact ⟨j + 1, L, by omega, by go_num, by show _ = _; rw [HT.out]; simp [ha0], by omega, ho.out, hF.out⟩
      | zero =>
        have : j = yl.length := by omega
        subst this
        have HLL : Aside (L = heldL G k yl) := by
          show _ = _
          rw [hL.out, List.take_length]
          rfl
        have HB4 : Aside (Below v0.heap.size v0 wr) := below_more HB3.out hF.out
        have HD4 : Aside (Below w3.heap.size w3 wr) := hF.out
        obtain ⟨k0, k1, _⟩ := KP.out _ HB4.out
        have hLo : ∀ z ∈ L, i64ok z := fun z hz => by
          rw [HLL.out] at hz
          exact HYO.out z (List.mem_filter.1 hz).1
        have cR := rreach_any G L wr _ _ (HG0.out.below HB4.out) (Rd.row ho.out hLo) hn
        rw [HRA.out] at cR
        clear hLo hL ho hF
        go_wp2_with fail
        refine cR.mono ?_
        rintro e w7 ⟨ub, rfl, hub, hb7⟩
        have HB7 : Aside (Below v0.heap.size v0 w7) := below_more HB4.out hb7
        have HD7 : Aside (Below w3.heap.size w3 w7) := below_more HD4.out hb7
        have hbs : ∀ (x : Int) (wx : World), Below w7.heap.size w7 wx → Calls Try.prog 17 #[ub, .int .i64 x] wx fun e w' => e = .returned (.bool (Rt.hasB (reachL G L) x)) ∧ wx = w' := fun x wx hx =>
          has_any (reachL G L) x wx ub ((Rd.row hub (reach_ok HI.out)).below hx)
        have HBS := Lib.hid hbs
        clear hub hb7 cR k0 k1 hbs
        go_wp2_with fail
        go_loopg [14, 15] yl.length (fun g s14 s15 wx => ∃ (j : Nat) (M : List Int), j + g = yl.length ∧ s15 = .int .i64 j ∧ Aside (M = (yl.take j).filter (fun z => !Rt.hasB (reachL G L) z)) ∧ M.length ≤ j ∧ Aside (wx.ownsRow w7.heap.size 3 1 s14 M.length (vals M)) ∧ Aside (Below w7.heap.size w7 wx))
        case atStart => exact ⟨0, [], by omega, rfl, rfl, by simp, World.ownsRow_nil _ _ _ _, Below.refl _ _⟩
        case round =>
          obtain ⟨j, M, hj, rfl, hM, hMl, ho, hF⟩ := hrel
          cases gk with
          | zero =>
            have : j = yl.length := by omega
            subst this
            have HMM : Aside (M = whiteA G k c) := by
              show _ = _
              rw [HA.out.1, HYL.out, hM.out, List.take_length, HLL.out]
              rfl
            have hlow : w.heap.size ≤ w7.heap.size := by have := (below_more HW0.out HB7.out).size; omega
            have HBZ : Aside (Below w.heap.size w wr) := below_more (below_more HW0.out HB7.out) hF.out
            have HE := Lib.hid HA.out.2
            clear hM hF
            go_wp2_with fail
            go_ret2
            exact ⟨_, by rw [HE.out]; rfl, by rw [← HMM.out]; exact row_low ho.out hlow, HBZ.out⟩
          | succ g =>
            obtain ⟨z, hz⟩ : ∃ z, yl[j]? = some z := ⟨_, List.getElem?_eq_getElem (by omega)⟩
            obtain ⟨b, o, rfl, hbl, hc⟩ := HY3.out j z hz
            have d1 := ((below_more HD7.out hF.out).cell (p := ⟨b, _, none⟩) hbl).trans hc
            have hlt : (j : Int) < yl.length := by omega
            have hcl := HBS.out z wr hF.out
            have HT : Aside ((yl.take (j + 1)).filter (fun z => !Rt.hasB (reachL G L) z) = M ++ if !Rt.hasB (reachL G L) z then [z] else []) := by
              show _ = _
              rw [filter_snoc _ hz, hM.out]
            have hsz := hF.out.size
            clear hz hc hbl hM
            generalize Rt.hasB (reachL G L) z = hv at *
            cases hv
            · go_wp2_with (first
                | (go_at_call 17; refine hcl.mono ?_; rintro e w5 ⟨rfl, rfl⟩)
                | (at_builtin; refine wpList_append_i _ rfl _ _ rfl w7.heap.size _ M rfl (ho.out.alloc _) _ 1 z rfl (one_int_at _ _) (by omega) (by first | omega | (simp; omega)) ?_; intro v1 w6 hown1 hb1; have O1 : Aside (w6.ownsRow w7.heap.size 3 1 v1 (M ++ [z]).length (vals (M ++ [z]))) := hown1; have B1 : Aside (Below w7.heap.size w7 w6) := (hF.out.alloc hsz _).trans hb1; clear hown1 hb1 d1 hcl))
              go_roundg g
              case measure => omega
              case rel => exact ⟨j + 1, M ++ [z], by omega, by go_num, by show _ = _; rw [HT.out]; simp, by simp; omega, O1.out, B1.out⟩
            · go_wp2_with (go_at_call 17; refine hcl.mono ?_; rintro e w5 ⟨rfl, rfl⟩)
              go_roundg g
              case measure => omega
              case rel => exact ⟨j + 1, M, by omega, by go_num, by show _ = _; rw [HT.out]; simp, by omega, ho.out, hF.out⟩
end Tr
end Go.Proofs.Ytmnjbinmfbjbaaa
