/- GraphClosed, as a call. -/
import Derived.Test.YtngcncmpdlfbmaaGraN
namespace Go.Proofs.Ytngcncmpdlfbmaa
namespace Gr
open Go.RowKit Go.Maps

/-- The law's world behind its three questions. -/
structure KW (w0 w : World) (q : Nat) (nv rv fv : Value) (G : Gp) (fr : List Int) (ur ud uc : Value) : Prop where
  lw : LW w0 w q nv rv fv G fr
  r : Own w ur (reachL G fr)
  d : Own w ud (deadL G)
  c : Own w uc (countsL G)
section
variable {w0 w w' : World} {q : Nat} {nv rv fv ur ud uc : Value} {G : Gp} {fr : List Int}
theorem KW.more (h : KW w0 w q nv rv fv G fr ur ud uc) (hb : Below w.heap.size w w') : KW w0 w' q nv rv fv G fr ur ud uc := ⟨h.lw.more hb, h.r.below hb, h.d.below hb, h.c.below hb⟩
theorem kw_r (h : KW w0 w q nv rv fv G fr ur ud uc) : Rd w ur (reachL G fr) := Rd.of_own h.r (fun z hz => h.lw.gr.ids_ok z (reach_ids hz))
theorem kw_d (h : KW w0 w q nv rv fv G fr ur ud uc) : Rd w ud (deadL G) := Rd.of_own h.d (fun z hz => h.lw.gr.ids_ok z (mem_dead.1 hz).1)
theorem below_drewN' (w : World) (n : Nat) : Below w.heap.size w (w.drewN n) := below_drewN (Below.refl _ w) n
end

set_option maxRecDepth 100000 in
set_option maxHeartbeats 3200000 in
theorem closed_early (G : Gp) (fr : List Int) (w : World) (gv fv : Value) (hg : GrAt w gv G) (hf : Rd w fv fr) (hn : G.nodes.length ≤ 4398046511103) (hno : ¬ (fitsB G = true ∧ rightB G = true ∧ fr.length ≤ 30)) :
    Calls Try.prog 4 #[gv, fv] w fun e w' => e = .returned (.bool true) ∧ Below w.heap.size w w' := by
  obtain ⟨A, cap, B, cb, rfl, h1, h2, h3⟩ := id hg
  obtain ⟨fA, fc, rfl⟩ : ∃ fA fc, fv = .slice fA fr.length fc := by
    obtain ⟨_, fA, fc, e, _⟩ := hf
    exact ⟨fA, fc, e⟩
  have hfl : fr.length ≤ 9223372036854775807 := by
    obtain ⟨_, _, _, e, h4, h5, _⟩ := hf
    omega
  obtain ⟨v0, q, hv0, hq, K, hb0, hs0⟩ := box_any w (.slice A G.nodes.length cap) (.slice B G.roots.length cb)
  have hw0 : Below w.heap.size w v0 := by rw [hq]; exact hb0
  have L0 : LW w v0 q (.slice A G.nodes.length cap) (.slice B G.roots.length cb) (.slice fA fr.length fc) G fr := ⟨K, hg.below hw0, hf.below hw0, hw0⟩
  obtain ⟨c0, c1, -⟩ := lw_S L0
  have cF := lw_fits L0
  clear K hb0 hw0 hs0 h1 h2 h3 hg hf
  generalize fitsB G = ft at *
  go_enter Try.func4, Try.ntmps4
  go_wp2_with fail
  refine cF.mono ?_
  rintro e w1 ⟨rfl, L1⟩
  clear c0 c1 cF
  obtain ⟨c0, c1, -⟩ := lw_S L1
  have cR : Calls Try.prog 15 #[.agg #[.slice A G.nodes.length cap, .slice B G.roots.length cb]] w1 fun e w' => e = .returned (.bool (rightB G)) ∧ LW w w' q (.slice A G.nodes.length cap) (.slice B G.roots.length cb) (.slice fA fr.length fc) G fr :=
    (rright_any G w1 _ L1.gr hn).mono fun _ _ ⟨he, hb⟩ => ⟨he, L1.more hb⟩
  generalize rightB G = rt at *
  go_wp2_with fail
  refine cR.mono ?_
  rintro e w2 ⟨rfl, L2⟩
  clear c0 c1 cR L1 L0 hv0 hq
  have cA := lw_alive L2
  cases ft
  · go_wp2_with fail
    refine cA.mono ?_
    rintro e w3 ⟨rfl, L3⟩
    go_wp2_with fail
    go_ret
    exact ⟨rfl, L3.below⟩
  cases rt
  · go_wp2_with fail
    refine cA.mono ?_
    rintro e w3 ⟨rfl, L3⟩
    go_wp2_with fail
    go_ret
    exact ⟨rfl, L3.below⟩
  have hfr : 30 < fr.length := by
    rcases Nat.lt_or_ge 30 fr.length with h | h
    · exact h
    · exact absurd ⟨rfl, rfl, h⟩ hno
  have hfb : decide (30 < fr.length) = true := by simpa using hfr
  clear hno
  go_wp2_with fail
  refine cA.mono ?_
  rintro e w3 ⟨rfl, L3⟩
  go_wp2_with fail
  go_ret
  exact ⟨rfl, L3.below⟩

set_option maxRecDepth 100000 in
set_option maxHeartbeats 3200000 in
theorem closed_main (G : Gp) (fr : List Int) (w : World) (gv fv : Value) (hg : GrAt w gv G) (hf : Rd w fv fr) (hF : fitsB G = true) (hR : rightB G = true) (hfr : fr.length ≤ 30) :
    Calls Try.prog 4 #[gv, fv] w fun e w' => e = .returned (.bool true) ∧ Below w.heap.size w w' := by
  obtain ⟨A, cap, B, cb, rfl, h1, h2, h3⟩ := id hg
  obtain ⟨fA, fc, rfl⟩ : ∃ fA fc, fv = .slice fA fr.length fc := by
    obtain ⟨_, fA, fc, e, _⟩ := hf
    exact ⟨fA, fc, e⟩
  obtain ⟨v0, q, hv0, hq, K, hb0, hs0⟩ := box_any w (.slice A G.nodes.length cap) (.slice B G.roots.length cb)
  have hw0 : Below w.heap.size w v0 := by rw [hq]; exact hb0
  have L0 : LW w v0 q (.slice A G.nodes.length cap) (.slice B G.roots.length cb) (.slice fA fr.length fc) G fr := ⟨K, hg.below hw0, hf.below hw0, hw0⟩
  obtain ⟨c0, c1, -⟩ := lw_S L0
  obtain ⟨hn30, hr30, ho30, hP30⟩ := fits_facts hF
  have HN : Aside (G.nodes.length ≤ 1000) := by show _ ≤ _; omega
  have HP : Aside ((allP G).length ≤ 100000) := by show _ ≤ _; omega
  have HO := Lib.hid ho30
  have HP30 := Lib.hid hP30
  have HRi := Lib.hid (rightB_ri hR)
  have HFi := Lib.hid hF
  have H3 := Lib.hid h3
  have HA : Aside (reachA G fr = reachL G fr ∧ deadA G = deadL G ∧ countsA G = countsL G ∧ reachA G (reachL G fr) = reachL G fr) := by
    refine ⟨by simp [reachA, hR], by simp [deadA, hR], by simp [countsA, hR], ?_⟩
    rw [show reachA G (reachL G fr) = reachL G (reachL G fr) by simp [reachA, hR], again HRi.out]
  have cF := lw_fits L0
  have hfb : decide (30 < fr.length) = false := by simp; omega
  rw [hF] at cF
  clear K hb0 hw0 hs0 h1 h2 h3 hg hf ho30 hP30 hF
  go_enter Try.func4, Try.ntmps4
  go_wp2_with fail
  refine cF.mono ?_
  rintro e w1 ⟨rfl, L1⟩
  clear c0 c1 cF
  obtain ⟨c0, c1, -⟩ := lw_S L1
  have cR := lw_rright HN.out L1
  rw [hR] at cR
  clear hR
  go_wp2_with fail
  refine cR.mono ?_
  rintro e w2 ⟨rfl, L2⟩
  clear c0 c1 cR L1 L0 hv0
  obtain ⟨c0, c1, -⟩ := lw_S L2
  have cE := lw_reach HN.out L2
  rw [HA.out.1] at cE
  go_wp2_with fail
  refine cE.mono ?_
  rintro e w3 ⟨ur, rfl, hur, L3, -⟩
  clear c0 c1 cE L2
  obtain ⟨c0, c1, -⟩ := lw_S L3
  have cD := lw_dead HN.out L3
  rw [HA.out.2.1] at cD
  go_wp2_with fail
  refine cD.mono ?_
  rintro e w4 ⟨ud, rfl, hud, L4, hb4⟩
  have hur := hur.below hb4
  clear c0 c1 cD L3 hb4
  obtain ⟨c0, c1, -⟩ := lw_S L4
  have cC := lw_counts HN.out HP.out L4
  rw [HA.out.2.2.1] at cC
  go_wp2_with fail
  refine cC.mono ?_
  rintro e w5 ⟨uc, rfl, huc, L5, hb5⟩
  have K5 : Aside (KW w w5 q (.slice A G.nodes.length cap) (.slice B G.roots.length cb) (.slice fA fr.length fc) G fr ur ud uc) := ⟨L5, hur.below hb5, hud.below hb5, huc⟩
  clear c0 c1 cC L4 hb5
  obtain ⟨c0, c1, -⟩ := lw_S L5
  obtain ⟨rA, rc, rfl, -⟩ := K5.out.r.form
  obtain ⟨dA, dc, rfl, -⟩ := K5.out.d.form
  have hcl : (countsL G).length = G.nodes.length := by unfold countsL; rw [List.length_map, ids_length]
  obtain ⟨cA, cc, rfl, -⟩ : ∃ cA cc, uc = .slice cA G.nodes.length cc ∧ True := by
    obtain ⟨cA, cc, e, _⟩ := K5.out.c.form
    rw [hcl] at e
    exact ⟨cA, cc, e, trivial⟩
  have hrl : (reachL G fr).length ≤ G.nodes.length := reach_len fr
  have hrb : decide (G.nodes.length < (reachL G fr).length) = false := by simp; omega
  have HCL := Lib.hid hcl
  clear hur hud huc L5 hcl
  generalize hRN : (reachL G fr).length = rn at *
  have HRN := Lib.hid hRN
  generalize hDN : (deadL G).length = dn at *
  have HDN := Lib.hid hDN
  clear hRN hDN
  clear hur
  go_wp2_with fail
  clear c0 c1 hrb hrl hfb hfr
  go_loopg [10, 11] G.nodes.length (fun g s10 s11 wx => ∃ (j : Nat), j + g = G.nodes.length ∧ s11 = .int .i64 j ∧ Aside (s10 = .int .i64 (sumP G j)) ∧ Aside (KW w wx q (.slice A G.nodes.length cap) (.slice B G.roots.length cb) (.slice fA fr.length fc) G fr (.slice rA rn rc) (.slice dA dn dc) (.slice cA G.nodes.length cc)))
  case atStart => exact ⟨0, by omega, rfl, rfl, K5.out⟩
  case round =>
    obtain ⟨j, hj, rfl, hs10, HK⟩ := hrel
    obtain ⟨c0, c1, -⟩ := lw_S HK.out.lw
    clear K5
    cases gk with
    | zero =>
      have : j = G.nodes.length := by omega
      subst this
      have hs10' := hs10.out
      rw [sum_all HRi.out] at hs10'
      subst hs10'
      have hrl : (reachL G fr).length ≤ 1000 := by
        have := reach_len (G := G) fr
        omega
      have HRl := Lib.hid hrl
      have cE := preach_any G (reachL G fr) wr _ _ HK.out.lw.gr (kw_r HK.out) HN.out
      rw [HA.out.2.2.2] at cE
      clear hs10 hrl
      go_wp2_with fail
      refine cE.mono ?_
      rintro e w6 ⟨u, rfl, hu, hb6⟩
      have HK6 := HK.out.more hb6
      have cI := ints_any (reachL G fr) HRl.out w6 u _ (Own.of hu).1 HK6.r
      clear cE hu hb6 c0 c1
      go_wp2_with fail
      refine cI.mono ?_
      rintro e w7 ⟨rfl, hb7⟩
      have HK7 := HK6.more hb7
      have cA := lw_alive HK7.lw
      clear cI hb7 HK6
      go_wp2_with fail
      refine cA.mono ?_
      rintro e w8 ⟨rfl, L8⟩
      obtain ⟨c0, c1, -⟩ := lw_S L8
      clear cA HK7
      go_wp2_with fail
      go_ret
      exact ⟨rfl, L8.below⟩
    | succ g =>
      have hs10' := hs10.out
      subst hs10'
      clear hs10
      obtain ⟨x, hx⟩ : ∃ x, G.nodes[j]? = some x := ⟨_, List.getElem?_eq_getElem (by omega)⟩
      obtain ⟨hxo, b, o, C, xc, rfl, hbl, a1, a2, hrd⟩ := H3.out j x hx
      have hlt : (j : Int) < G.nodes.length := by omega
      have d1 := (HK.out.lw.below.cell (p := ⟨b, _, none⟩) hbl).trans a1
      have d2 := (HK.out.lw.below.cell (p := ⟨b, _, none⟩) hbl).trans a2
      obtain ⟨W1, nb, eW, sW, bW, lW⟩ := alc wr #[.int .i64 x.id, .slice C x.out.length xc] 33
      have HK1 : Aside (KW w W1 q _ _ _ G fr _ _ _) := HK.out.more lW
      have HX : Aside (G.nodes[j]? = some x ∧ w.cell? ⟨b, o + j * 2, none⟩ = some (.int .i64 x.id)) := ⟨hx, a1⟩
      have hcnt : (countsL G)[j]? = some (((allP G).count x.id : Nat) : Int) := by
        unfold countsL
        rw [List.getElem?_map, ids_at hx]; rfl
      obtain ⟨gc, rfl, f0⟩ : ∃ gc, cA = some ⟨gc, 0, none⟩ ∧ W1.cell? ⟨gc, j, none⟩ = some (.int .i64 ((allP G).count x.id : Nat)) := by
        obtain ⟨cA', cc', e, _, _, _, h3⟩ := HK1.out.c.form
        obtain ⟨g', e', hc⟩ := h3 j _ hcnt
        simp only [Value.slice.injEq] at e
        exact ⟨g', e.1.trans e', hc⟩
      have HS : Aside (sumP G (j + 1) = sumP G j + (((allP G).count x.id : Nat) : Int) - (x.out.length : Nat)) := sumP_succ hx
      have hsb := sumP_bound HFi.out j
      have hxl : x.out.length ≤ 30 := HO.out x (List.mem_of_getElem? hx)
      have hcb : (allP G).count x.id ≤ 930 := Nat.le_trans List.count_le_length HP30.out
      have n0 := bW.cell (i := 0) rfl
      have n1 := bW.cell (i := 1) rfl
      obtain ⟨e0, e1, -⟩ := lw_S HK1.out.lw
      have HBW := Lib.hid bW
      have cHr : ∀ n, Calls Try.prog 16 #[.slice rA rn rc, .int .i64 x.id] (W1.drewN n) fun e w' => e = .returned (.bool (Rt.hasB (reachL G fr) x.id)) ∧ W1.drewN n = w' := fun n => has_any _ _ _ _ ((kw_r HK1.out).below (below_drewN' W1 n))
      have cHf : ∀ n, Calls Try.prog 16 #[.slice fA fr.length fc, .int .i64 x.id] (W1.drewN n) fun e w' => e = .returned (.bool (Rt.hasB fr x.id)) ∧ W1.drewN n = w' := fun n => has_any _ _ _ _ (HK1.out.lw.rd.below (below_drewN' W1 n))
      have cHd : ∀ n, Calls Try.prog 16 #[.slice dA dn dc, .int .i64 x.id] (W1.drewN n) fun e w' => e = .returned (.bool (Rt.hasB (deadL G) x.id)) ∧ W1.drewN n = w' := fun n => has_any _ _ _ _ ((kw_d HK1.out).below (below_drewN' W1 n))
      have hRt : Rd W1 (.slice B G.roots.length cb) G.roots := by
        obtain ⟨_, _, B', cb', e, _, h2, _⟩ := HK1.out.lw.gr
        simp only [Value.agg.injEq, Array.mk.injEq, List.cons.injEq, Value.slice.injEq, and_true] at e
        obtain ⟨_, rfl, _, rfl⟩ := e
        exact h2
      have cHo : ∀ n, Calls Try.prog 16 #[.slice B G.roots.length cb, .int .i64 x.id] (W1.drewN n) fun e w' => e = .returned (.bool (Rt.hasB G.roots x.id)) ∧ W1.drewN n = w' := fun n => has_any _ _ _ _ (hRt.below (below_drewN' W1 n))
      clear hx a1 a2 hrd hxo hcnt lW bW hRt HK
      generalize sumP G j = s at *
      generalize (allP G).count x.id = c at *
      go_wp2_with fail
      go_quiet (fail)
      go_wp2_with fail
      refine (cHr nq).mono ?_
      rintro e w6 ⟨rfl, rfl⟩
      go_wp2_with fail
      refine (cHf nq).mono ?_
      rintro e w6 ⟨rfl, rfl⟩
      go_wp2_with fail
      refine (cHd nq).mono ?_
      rintro e w6 ⟨rfl, rfl⟩
      go_wp2_with fail
      refine (cHo nq).mono ?_
      rintro e w6 ⟨rfl, rfl⟩
      go_wp2_with fail
      have HK2 : Aside (KW w (W1.drewN nq) q _ _ _ G fr _ _ _) := HK1.out.more (below_drewN' W1 nq)
      have HB2 : Aside (Blk (W1.drewN nq) nb 33 [.int .i64 x.id, .slice C x.out.length xc]) := HBW.out.drewN nq
      clear cHr cHf cHd cHo n0 n1 e0 e1 c0 c1 d1 d2 f0 eW sW HK1 HBW
      generalize W1.drewN nq = v at *
      obtain ⟨N1, N2, N3⟩ := node_facts (fr := fr) HRi.out HX.out.1
      have HPF : Aside (∀ (k : Nat) (y : Nd), G.nodes[k]? = some y → Rt.hasB y.out x.id = true → (Rt.hasB (reachL G fr) y.id = true → Rt.hasB (reachL G fr) x.id = true) ∧ (Rt.hasB (deadL G) y.id = false → Rt.hasB (deadL G) x.id = false)) := fun k y hk hp => point_facts HRi.out (List.mem_of_getElem? hk) hp
      generalize Rt.hasB (reachL G fr) x.id = bi at *
      generalize Rt.hasB fr x.id = ba at *
      generalize Rt.hasB (deadL G) x.id = bg at *
      generalize Rt.hasB G.roots x.id = bo at *
      have HN : Aside ((ba = true → bi = true) ∧ (ba = false → bi = true → ptd G (reachL G fr) j G.nodes.length = true) ∧ (bo = true → bg = false)) := ⟨N1, N2, N3⟩
      clear N1 N2 N3
      go_loopg [17, 18] G.nodes.length (fun g s17 s18 wx => ∃ (k : Nat), k + g = G.nodes.length ∧ s18 = .int .i64 k ∧ Aside (s17 = .bool (ptd G (reachL G fr) j k)) ∧ Aside (Below v.heap.size v wx))
      case atStart => exact ⟨0, by omega, rfl, rfl, Below.refl _ _⟩
      case round =>
        obtain ⟨k, hk, rfl, hs17, HB⟩ := hrel
        have hs17' := hs17.out
        subst hs17'
        have HKi : Aside (KW w wr q _ _ _ G fr _ _ _) := HK2.out.more HB.out
        have HBi := HB2.out.below HB.out HB2.out.lt
        obtain ⟨c0, c1, -⟩ := lw_S HKi.out.lw
        have n0 := HBi.cell (i := 0) rfl
        have n1 := HBi.cell (i := 1) rfl
        clear hs17
        cases gk with
        | zero =>
          have : k = G.nodes.length := by omega
          subst this
          have HKz : Aside (KW w wr q _ _ _ G fr _ _ _) := HKi.out
          obtain ⟨N1, N2, N3⟩ := HN.out
          clear HKi HBi
          generalize ptd G (reachL G fr) j G.nodes.length = pt at *
          clear HPF HN
          have N4 : bo = false ∨ (bo = true ∧ bg = false) := by
            cases bo
            · exact .inl rfl
            · exact .inr ⟨rfl, N3 rfl⟩
          clear N3
          cases ba
          · clear N1
            cases bi
            · clear N2
              rcases N4 with rfl | ⟨rfl, rfl⟩ <;> (go_wp2_with fail; go_roundg g; (case measure => omega); (case rel => exact ⟨j + 1, by omega, by go_num, by show _ = _; rw [HS.out], HKz.out⟩))
            · obtain rfl := N2 rfl rfl
              clear N2
              rcases N4 with rfl | ⟨rfl, rfl⟩ <;> (go_wp2_with fail; go_roundg g; (case measure => omega); (case rel => exact ⟨j + 1, by omega, by go_num, by show _ = _; rw [HS.out], HKz.out⟩))
          · obtain rfl := N1 rfl
            clear N1 N2
            rcases N4 with rfl | ⟨rfl, rfl⟩ <;> (go_wp2_with fail; go_roundg g; (case measure => omega); (case rel => exact ⟨j + 1, by omega, by go_num, by show _ = _; rw [HS.out], HKz.out⟩))
        | succ gi =>
          obtain ⟨y, hy⟩ : ∃ y, G.nodes[k]? = some y := ⟨_, List.getElem?_eq_getElem (by omega)⟩
          obtain ⟨_, b', o', C', yc, e', _, a1, a2, hyr⟩ := H3.out k y hy
          simp only [Option.some.injEq, Addr.mk.injEq, and_true] at e'
          obtain ⟨rfl, rfl⟩ := e'
          have hlk : (k : Int) < G.nodes.length := by omega
          have d1 := (HKi.out.lw.below.cell (p := ⟨b, _, none⟩) hbl).trans a1
          have d2 := (HKi.out.lw.below.cell (p := ⟨b, _, none⟩) hbl).trans a2
          have cP : ∀ n, Calls Try.prog 16 #[.slice C' y.out.length yc, .int .i64 x.id] (wr.drewN n) fun e w' => e = .returned (.bool (Rt.hasB y.out x.id)) ∧ wr.drewN n = w' := fun n => has_any _ _ _ _ ((hyr.below HKi.out.lw.below).below (below_drewN' wr n))
          have cR : ∀ n, Calls Try.prog 16 #[.slice rA rn rc, .int .i64 y.id] (wr.drewN n) fun e w' => e = .returned (.bool (Rt.hasB (reachL G fr) y.id)) ∧ wr.drewN n = w' := fun n => has_any _ _ _ _ ((kw_r HKi.out).below (below_drewN' wr n))
          have cD : ∀ n, Calls Try.prog 16 #[.slice dA dn dc, .int .i64 y.id] (wr.drewN n) fun e w' => e = .returned (.bool (Rt.hasB (deadL G) y.id)) ∧ wr.drewN n = w' := fun n => has_any _ _ _ _ ((kw_d HKi.out).below (below_drewN' wr n))
          have hpf := HPF.out k y hy
          have HPt : Aside (ptd G (reachL G fr) j (k + 1) = (ptd G (reachL G fr) j k || (Rt.hasB y.out x.id && Rt.hasB (reachL G fr) y.id && decide (k ≠ j)))) := by
            show (ptd G (reachL G fr) j k || (Rt.hasB (outAt G k) (idAt G j) && Rt.hasB (reachL G fr) (idAt G k) && decide (k ≠ j))) = _
            rw [outAt_is hy, idAt_is hy, idAt_is HX.out.1]
          have HBn : Aside (∀ n, Below v.heap.size v (wr.drewN n)) := fun n => below_drewN HB.out n
          clear hy a1 a2 hyr HKi HBi
          generalize Rt.hasB y.out x.id = bp at *
          generalize Rt.hasB (reachL G fr) y.id = br at *
          generalize Rt.hasB (deadL G) y.id = bl at *
          generalize ptd G (reachL G fr) j k = pt at *
          go_wp2_with fail
          go_quiet ((go_at_call 16; exact quiet_left (cP _)))
          go_wp2_with fail
          refine (cR nq).mono ?_
          rintro e w6 ⟨rfl, rfl⟩
          go_wp2_with fail
          refine (cD nq).mono ?_
          rintro e w6 ⟨rfl, rfl⟩
          clear cP cR cD c0 c1 n0 n1 d1 d2
          cases bp
          · clear hpf
            cases pt <;> (go_wp2_with fail; go_roundg gi; (case measure => omega); (case rel => exact ⟨k + 1, by omega, by go_num, by show _ = _; rw [HPt.out]; simp, HBn.out nq⟩))
          · obtain ⟨P1, P2⟩ := hpf rfl
            by_cases e : k = j
            · subst e
              cases br
              · clear P1
                cases bl
                · obtain rfl := P2 rfl
                  clear P2
                  cases pt <;> (go_wp2_with fail; go_roundg gi; (case measure => omega); (case rel => exact ⟨k + 1, by omega, by go_num, by show _ = _; rw [HPt.out]; simp, HBn.out nq⟩))
                · clear P2
                  cases pt <;> (go_wp2_with fail; go_roundg gi; (case measure => omega); (case rel => exact ⟨k + 1, by omega, by go_num, by show _ = _; rw [HPt.out]; simp, HBn.out nq⟩))
              · obtain rfl := P1 rfl
                clear P1
                cases bl
                · obtain rfl := P2 rfl
                  clear P2
                  cases pt <;> (go_wp2_with fail; go_roundg gi; (case measure => omega); (case rel => exact ⟨k + 1, by omega, by go_num, by show _ = _; rw [HPt.out]; simp, HBn.out nq⟩))
                · clear P2
                  cases pt <;> (go_wp2_with fail; go_roundg gi; (case measure => omega); (case rel => exact ⟨k + 1, by omega, by go_num, by show _ = _; rw [HPt.out]; simp, HBn.out nq⟩))
            · have hki : ¬ (k : Int) = j := by omega
              cases br
              · clear P1
                cases bl
                · obtain rfl := P2 rfl
                  clear P2
                  cases pt <;> (go_wp2_with fail; go_roundg gi; (case measure => omega); (case rel => exact ⟨k + 1, by omega, by go_num, by show _ = _; rw [HPt.out]; simp, HBn.out nq⟩))
                · clear P2
                  cases pt <;> (go_wp2_with fail; go_roundg gi; (case measure => omega); (case rel => exact ⟨k + 1, by omega, by go_num, by show _ = _; rw [HPt.out]; simp, HBn.out nq⟩))
              · obtain rfl := P1 rfl
                clear P1
                cases bl
                · obtain rfl := P2 rfl
                  clear P2
                  cases pt <;> (go_wp2_with fail; go_roundg gi; (case measure => omega); (case rel => exact ⟨k + 1, by omega, by go_num, by show _ = _; rw [HPt.out]; simp [e] <;> omega, HBn.out nq⟩))
                · clear P2
                  cases pt <;> (go_wp2_with fail; go_roundg gi; (case measure => omega); (case rel => exact ⟨k + 1, by omega, by go_num, by show _ = _; rw [HPt.out]; simp [e] <;> omega, HBn.out nq⟩))

theorem closed10_any (G : Gp) (fr : List Int) (w : World) (gv fv : Value) (hg : GrAt w gv G) (hf : Rd w fv fr) (hn : G.nodes.length ≤ 4398046511103) :
    Calls Try.prog 4 #[gv, fv] w fun e w' => e = .returned (.bool true) ∧ Below w.heap.size w w' := by
  by_cases h : fitsB G = true ∧ rightB G = true ∧ fr.length ≤ 30
  · exact closed_main G fr w gv fv hg hf h.1 h.2.1 h.2.2
  · exact closed_early G fr w gv fv hg hf hn h
end Gr
end Go.Proofs.Ytngcncmpdlfbmaa
