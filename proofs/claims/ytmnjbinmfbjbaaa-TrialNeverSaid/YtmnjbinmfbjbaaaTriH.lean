/- The document's Rests. -/
import Derived.Test.YtmnjbinmfbjbaaaTriG
namespace Go.Proofs.Ytmnjbinmfbjbaaa
namespace Tr
open Go.RowKit Go.Maps Gr

theorem ptrs_in {G : Gp} {gray : List Int} {j : Nat} {x : Nd} (hx : G.nodes[j]? = some x) (hg : Rt.hasB gray x.id = true) (z : Int) : ((ptrs gray (G.nodes.take (j + 1))).count z : Int) = ((ptrs gray (G.nodes.take j)).count z : Int) + (x.out.count z : Int) := by
  rw [take_snoc hx, ptrs_append, ptrs_one, if_pos hg, List.count_append]
  omega
theorem ptrs_out {G : Gp} {gray : List Int} {j : Nat} {x : Nd} (hx : G.nodes[j]? = some x) (hg : Rt.hasB gray x.id = false) (z : Int) : ((ptrs gray (G.nodes.take (j + 1))).count z : Int) = ((ptrs gray (G.nodes.take j)).count z : Int) := by
  rw [take_snoc hx, ptrs_append, ptrs_one, hg]
  simp
theorem grayA_trial {G : Gp} {k c : List Int} (h : trialB G k c = true) : grayA G c = reachL G c := by
  obtain ⟨h1, _, _, h4⟩ := trialB_facts h
  simp [grayA, reachA, h1, h4]

set_option maxRecDepth 100000 in
set_option maxHeartbeats 3200000 in
theorem rrests_any (G : Gp) (k c : List Int) (w : World) (gv kv cv : Value) (hg : GrAt w gv G) (hk : Rd w kv k) (hc : Rd w cv c) (hn : G.nodes.length ≤ 1000) (hO : ∀ n ∈ G.nodes, n.out.length ≤ 100000) :
    Calls Try.prog 11 #[gv, kv, cv] w fun e w' => ∃ u, e = .returned u ∧ w'.ownsRow w.heap.size 3 1 u (restsA G k c).length (vals (restsA G k c)) ∧ Below w.heap.size w w' := by
  have hio := hg.ids_ok
  obtain ⟨A, cap, B, cb, rfl, h1, h2, h3⟩ := id hg
  obtain ⟨hko, kA, kc, rfl, hk1, hk2, hk3⟩ := id hk
  obtain ⟨v0, q, hv0, hq, K, hb0, hs0⟩ := box_any w (.slice A G.nodes.length cap) (.slice B G.roots.length cb)
  have hw0 : Below w.heap.size w v0 := by rw [hq]; exact hb0
  have hg0 := hg.below hw0
  have HG0 := Lib.hid hg0
  have HC0 := Lib.hid (hc.below hw0)
  have H3 := Lib.hid h3
  have HK3 := Lib.hid hk3
  have HKO := Lib.hid hko
  have HW0 := Lib.hid hw0
  have HI := Lib.hid hio
  have HOl := Lib.hid hO
  have keep : ∀ wx : World, Below v0.heap.size v0 wx → wx.cell? ⟨q, 0, none⟩ = some (.slice A G.nodes.length cap) ∧ wx.cell? ⟨q, 1, none⟩ = some (.slice B G.roots.length cb) ∧ Below w.heap.size w wx := fun wx h =>
    ⟨(K.below h (by omega)).cell (i := 0) rfl, (K.below h (by omega)).cell (i := 1) rfl, below_more hw0 h⟩
  have KP := Lib.hid keep
  obtain ⟨k0, k1, _⟩ := keep _ (Below.refl _ v0)
  have cT := rtright_any G k c v0 _ _ _ hg0 (hk.below hw0) (hc.below hw0) hn
  clear h3 h2 K hb0 hg hk hk3 hc hg0 hw0 keep hko hio hO
  go_enter Try.func11, Try.ntmps11
  cases ht : trialB G k c
  · rw [ht] at cT
    have HA : Aside (restsA G k c = []) := by show _ = _; simp [restsA, ht]
    clear ht
    go_wp2_with fail
    refine cT.mono ?_
    rintro e w1 ⟨rfl, hb1⟩
    have HB1 : Aside (Below w.heap.size w w1) := below_more HW0.out hb1
    clear hb1 cT k0 k1
    go_wp2_with fail
    go_ret
    exact ⟨_, rfl, by rw [HA.out]; exact World.ownsRow_nil _ _ _ _, HB1.out⟩
  · rw [ht] at cT
    have HA : Aside (restsA G k c = restsL G k (reachL G c)) := by show _ = _; simp [restsA, ht]
    have HGA := Lib.hid (grayA_trial ht)
    obtain ⟨t1, t2, _, _⟩ := trialB_facts ht
    have HRi := Lib.hid (rightB_ri t1)
    have HT2 := Lib.hid t2
    clear ht t1 t2
    go_wp2_with fail
    refine cT.mono ?_
    rintro e w1 ⟨rfl, hb1⟩
    have HB1 : Aside (Below v0.heap.size v0 w1) := hb1
    clear hb1 cT k0 k1
    obtain ⟨k0, k1, _⟩ := KP.out _ HB1.out
    have cR := rgray_any G c w1 _ _ (HG0.out.below HB1.out) (HC0.out.below HB1.out) hn
    rw [HGA.out] at cR
    go_wp2_with fail
    refine cR.mono ?_
    rintro e w2 ⟨u, rfl, hu, hb2⟩
    have HB2 : Aside (Below v0.heap.size v0 w2) := below_more HB1.out hb2
    obtain ⟨yl, hyl⟩ : ∃ L, reachL G c = L := ⟨_, rfl⟩
    have hrd : Rd w2 u (reachL G c) := Rd.row hu (reach_ok HI.out)
    have HYF : Aside ((ids G).filter (Rt.hasB yl) = yl) := by
      have := reach_filter HRi.out c
      rw [hyl] at this
      exact this
    rw [hyl] at hrd
    have HYL := Lib.hid hyl
    have hhas : ∀ (x : Int) (wx : World), Below w2.heap.size w2 wx → Calls Try.prog 17 #[u, .int .i64 x] wx fun e w' => e = .returned (.bool (Rt.hasB yl x)) ∧ wx = w' := fun x wx h => has_any yl x wx u (hrd.below h)
    have HH := Lib.hid hhas
    clear hu hb2 cR k0 k1 hrd hyl hhas
    go_wp2_with fail
    go_loopg [9, 10] G.nodes.length (fun g s9 s10 wx => ∃ (j : Nat) (L : List Int) (rv : Value), j + g = G.nodes.length ∧ s10 = .int .i64 j ∧ rv = s9 ∧ Aside (L = (((ids G).take j).filter (Rt.hasB yl)).map (restV G k yl)) ∧ L.length ≤ j ∧ Aside (wx.ownsRow w2.heap.size 3 1 rv L.length (vals L)) ∧ Aside (Below w2.heap.size w2 wx))
    case atStart => exact ⟨0, [], _, by omega, rfl, rfl, rfl, by simp, World.ownsRow_nil _ _ _ _, Below.refl _ _⟩
    case round =>
      obtain ⟨j, L, rv, hj, rfl, rfl, hL, hLl, ho, hF⟩ := hrel
      obtain ⟨k0, k1, hbw⟩ := KP.out _ (below_more HB2.out hF.out)
      cases gk with
      | zero =>
        have : j = G.nodes.length := by omega
        subst this
        have HLL : Aside (L = restsA G k c) := by
          show _ = _
          rw [HA.out, HYL.out, hL.out, List.take_of_length_le (by rw [ids_length]; exact Nat.le_refl _), HYF.out]
          rfl
        have hlow : w.heap.size ≤ w2.heap.size := by have := (below_more HW0.out HB2.out).size; omega
        have HBW := Lib.hid hbw
        clear hL hF hbw
        go_wp2_with fail
        go_ret
        exact ⟨_, rfl, by rw [← HLL.out]; exact row_low ho.out hlow, HBW.out⟩
      | succ g =>
        obtain ⟨x, hx⟩ : ∃ x, G.nodes[j]? = some x := ⟨_, List.getElem?_eq_getElem (by omega)⟩
        obtain ⟨hxo, b, o, C, cc, rfl, hbl, c1, c2, hrd⟩ := H3.out j x hx
        have hlt : (j : Int) < G.nodes.length := by omega
        have d1 := (hbw.cell (p := ⟨b, _, none⟩) hbl).trans c1
        have hcl := HH.out x.id wr hF.out
        have HT : Aside ((((ids G).take (j + 1)).filter (Rt.hasB yl)).map (restV G k yl) = L ++ if Rt.hasB yl x.id then [restV G k yl x.id] else []) := by
          show _ = _
          rw [filter_snoc _ (ids_at hx), List.map_append, hL.out]
          congr 1
          cases Rt.hasB yl x.id <;> rfl
        have hsz := hF.out.size
        cases hv : Rt.hasB yl x.id
        · rw [hv] at hcl
          have HV := Lib.hid hv
          clear hx c1 c2 hbl hrd hbw hL hv
          go_wp2_with (go_at_call 17; refine hcl.mono ?_; rintro e w5 ⟨rfl, rfl⟩)
          go_roundg g
          case measure => omega
          case rel => exact ⟨j + 1, L, _, by omega, by go_num, rfl, by show _ = _; rw [HT.out, HV.out]; simp, by omega, ho.out, hF.out⟩
        · rw [hv] at hcl
          have HV := Lib.hid hv
          obtain ⟨d, hd⟩ : ∃ d, k[j]? = some d := ⟨_, List.getElem?_eq_getElem (by have := HT2.out; omega)⟩
          obtain ⟨kb, ko, rfl, hkb, hkc⟩ := HK3.out j d hd
          have hkc := (hbw.cell (p := ⟨kb, _, none⟩) hkb).trans hkc
          have hkk : (j : Int) < k.length := by have := HT2.out; omega
          have HD := Lib.hid (HKO.out d (List.mem_of_getElem? hd))
          have HRX : Aside (restV G k yl x.id = wrap64 (d - ((ptrs yl G.nodes).count x.id : Int))) := by
            show _ = _
            unfold restV
            rw [restX_at HRi.out hx hd]
          have HC1 : Aside (∀ wx, Below w2.heap.size w2 wx → wx.cell? ⟨b, o + j * 2, none⟩ = some (.int .i64 x.id)) := fun wx h => ((KP.out wx (below_more HB2.out h)).2.2.cell (p := ⟨b, _, none⟩) hbl).trans c1
          clear hx c1 c2 hbl hrd hbw hL hv hd hkb
          go_wp2_with (go_at_call 17; refine hcl.mono ?_; rintro e w5 ⟨rfl, rfl⟩)
          clear k0 k1 hcl hkc d1
          go_loopg [12, 13] G.nodes.length (fun gi s12 s13 wx => ∃ (i : Nat) (a : Int), i + gi = G.nodes.length ∧ s13 = .int .i64 i ∧ s12 = .int .i64 a ∧ Aside (a = wrap64 (d - ((ptrs yl (G.nodes.take i)).count x.id : Int))) ∧ Aside (wx.ownsRow w2.heap.size 3 1 rv L.length (vals L)) ∧ Aside (Below w2.heap.size w2 wx))
          case atStart => exact ⟨0, d, by omega, rfl, rfl, by show _ = _; rw [List.take_zero]; simp [ptrs, wrap64_of HD.out], ho.out, hF.out⟩
          case round =>
            obtain ⟨i, a, hi, rfl, rfl, ha, hO2, HF2⟩ := hrel
            obtain ⟨k0, k1, hbw⟩ := KP.out _ (below_more HB2.out HF2.out)
            cases gk with
            | zero =>
              have : i = G.nodes.length := by omega
              subst this
              have HAA : Aside (a = restV G k yl x.id) := by
                show _ = _
                rw [ha.out, HRX.out, List.take_length]
              have hsz2 := HF2.out.size
              clear ha hbw
              go_wp2_with (at_builtin; refine wpList_append_i _ rfl _ _ rfl w2.heap.size _ L rfl (hO2.out.alloc _) _ 1 a rfl (one_int_at _ _) (by omega) (by first | omega | (simp; omega)) ?_; intro v1 w6 hown1 hb1; have O1 : Aside (w6.ownsRow w2.heap.size 3 1 v1 (L ++ [a]).length (vals (L ++ [a]))) := hown1; have B1 : Aside (Below w2.heap.size w2 w6) := (HF2.out.alloc hsz2 _).trans hb1; clear hown1 hb1)
              go_roundg g
              case measure => omega
              case rel => exact ⟨j + 1, L ++ [a], _, by omega, by go_num, rfl, by show _ = _; rw [HT.out, HV.out, HAA.out]; simp, by simp; omega, O1.out, B1.out⟩
            | succ gi =>
              obtain ⟨y, hy⟩ : ∃ y, G.nodes[i]? = some y := ⟨_, List.getElem?_eq_getElem (by omega)⟩
              obtain ⟨hyo, b', o', C', cc', e', hbl', c1', c2', hrd'⟩ := H3.out i y hy
              simp only [Option.some.injEq, Addr.mk.injEq, and_true] at e'
              obtain ⟨rfl, rfl⟩ := e'
              have d1 := (hbw.cell (p := ⟨b, _, none⟩) hbl').trans c1'
              have d2 := (hbw.cell (p := ⟨b, _, none⟩) hbl').trans c2'
              have d3 := HC1.out _ HF2.out
              have hlt' : (i : Int) < G.nodes.length := by omega
              have hcl := HH.out y.id _ HF2.out
              cases hv : Rt.hasB yl y.id
              · rw [hv] at hcl
                have HP : Aside (((ptrs yl (G.nodes.take (i + 1))).count x.id : Int) = ((ptrs yl (G.nodes.take i)).count x.id : Int)) := ptrs_out hy hv x.id
                clear hy c1' c2' hbl' hrd' hbw hv
                go_wp2_with (go_at_call 17; refine hcl.mono ?_; rintro e w5 ⟨rfl, rfl⟩)
                go_roundg gi
                case measure => omega
                case rel => exact ⟨i + 1, a, by omega, by go_num, rfl, by show _ = _; rw [HP.out]; exact ha.out, hO2.out, HF2.out⟩
              · rw [hv] at hcl
                have HP : Aside (((ptrs yl (G.nodes.take (i + 1))).count x.id : Int) = ((ptrs yl (G.nodes.take i)).count x.id : Int) + (y.out.count x.id : Int)) := ptrs_in hy hv x.id
                have cT : ∀ n, Calls Try.prog 25 #[.slice C' y.out.length cc', .int .i64 x.id] (wr.drewN n) fun e w' => e = .returned (.int .i64 (y.out.count x.id)) ∧ wr.drewN n = w' := fun n => times_any y.out x.id _ _ (hrd'.below (below_drewN hbw n)) (HOl.out y (List.mem_of_getElem? hy))
                obtain ⟨t, ht⟩ : ∃ t : Int, ((y.out.count x.id : Nat) : Int) = t := ⟨_, rfl⟩
                rw [ht] at cT
                have HTT := Lib.hid ht
                clear hy c1' c2' hbl' hrd' hbw hv ht
                go_wp2_with (go_at_call 17; refine hcl.mono ?_; rintro e w5 ⟨rfl, rfl⟩)
                go_quiet ((go_at_call 25; exact quiet_left (cT _)))
                go_wp2_with fail
                go_roundg gi
                case measure => omega
                case rel => exact ⟨i + 1, wrap64 (a - t), by omega, by go_num, rfl, by show _ = _; rw [HP.out, HTT.out, ha.out, wrap_out]; congr 1; omega, row_drewN hO2.out nq, below_dN HF2.out nq⟩
end Tr
end Go.Proofs.Ytmnjbinmfbjbaaa
