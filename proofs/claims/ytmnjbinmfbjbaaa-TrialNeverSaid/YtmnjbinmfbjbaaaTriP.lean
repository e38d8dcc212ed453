/- TrialNever, as a call. -/
import Derived.Test.YtmnjbinmfbjbaaaTriO
namespace Go.Proofs.Ytmnjbinmfbjbaaa
namespace Tr
open Go.RowKit Go.Maps Gr

/-- A row's form: where its ints stand, if there are any. -/
theorem own_form {w : World} {u : Value} {L : List Int} (h : Own w u L) : ∃ A cap, u = .slice A L.length cap ∧ (0 < L.length → ∃ g, A = some ⟨g, 0, none⟩) ∧ ∀ j x, L[j]? = some x → ∃ g, A = some ⟨g, 0, none⟩ ∧ w.cell? ⟨g, j, none⟩ = some (.int .i64 x) := by
  obtain ⟨A, cap, rfl, _, _, _, h3⟩ := h.form
  exact ⟨A, cap, rfl, fun hl => by
    obtain ⟨g, e, _⟩ := h3 0 _ (List.getElem?_eq_getElem hl)
    exact ⟨g, e⟩, h3⟩
theorem own_formN {w : World} {u : Value} {L : List Int} {n : Nat} (hn : L.length = n) (h : Own w u L) : ∃ A cap, u = .slice A n cap ∧ (0 < n → ∃ g, A = some ⟨g, 0, none⟩) ∧ ∀ j x, L[j]? = some x → ∃ g, A = some ⟨g, 0, none⟩ ∧ w.cell? ⟨g, j, none⟩ = some (.int .i64 x) := by
  subst hn
  exact own_form h
theorem own_store {w : World} {g n cap j : Nat} {L : List Int} {x : Int} (hn : L.length = n) (h : Own w (.slice (some ⟨g, 0, none⟩) n cap) L) : Own (w.setCell ⟨g, j, none⟩ (.int .i64 x)) (.slice (some ⟨g, 0, none⟩) n cap) (L.set j x) := by
  have hh : w.ownsRow 0 3 1 (.slice (some ⟨g, 0, none⟩) n cap) L.length (vals L) := h
  rw [hn] at hh
  obtain ⟨s1, _⟩ := hh.stored j (.int .i64 x)
  rw [vals_set] at s1
  show World.ownsRow _ _ _ _ _ _ _
  rw [List.length_set, hn]
  exact s1
theorem own_free {w : World} {g n cap : Nat} {L : List Int} (hn : L.length = n) (h : Own w (.slice (some ⟨g, 0, none⟩) n cap) L) (j : Nat) : w.frozen? ⟨g, j, none⟩ = false := by
  have hh : w.ownsRow 0 3 1 (.slice (some ⟨g, 0, none⟩) n cap) L.length (vals L) := h
  rw [hn] at hh
  exact hh.frozenAt j
theorem counts_ok {G : Gp} {k : List Int} (hb : Big G k) : ∀ z ∈ k, i64ok z := by
  intro z hz
  obtain ⟨i, hi⟩ := List.mem_iff_getElem?.1 hz
  have hil := (List.getElem?_eq_some_iff.1 hi).1
  obtain ⟨y, hy⟩ : ∃ y, G.nodes[i]? = some y := ⟨_, List.getElem?_eq_getElem (by rw [← hb.len]; exact hil)⟩
  have h1 := hb.low i y z hy hi
  have h2 := List.count_le_length (a := y.id) (l := allP G)
  have h3 := hb.small
  unfold i64ok
  omega
theorem dead_ok {G : Gp} (h : ∀ z ∈ ids G, i64ok z) : ∀ z ∈ deadL G, i64ok z := fun z hz => h z (mem_dead.1 hz).1

set_option maxRecDepth 100000 in
set_option maxHeartbeats 3200000 in
theorem never_main (G : Gp) (M c : List Int) (w : World) (gv mv cv : Value) (hg : GrAt w gv G) (hm : Rb w mv M) (hc : Rd w cv c) (hF : fitsB G = true) (hR : rightB G = true) (hcl : c.length ≤ 60) :
    Calls Try.prog 4 #[gv, mv, cv] w fun e w' => e = .returned (.bool true) ∧ Below w.heap.size w w' := by
  have hio := hg.ids_ok
  obtain ⟨A, cap, B, cb, rfl, h1, h2, h3⟩ := id hg
  obtain ⟨hco, cA, cc, rfl, hc1, hc2, hc3⟩ := id hc
  obtain ⟨hmb, mA, mc, rfl, hm1, hm2, hm3⟩ := id hm
  obtain ⟨v0, q, hv0, hq, K, hb0, hs0⟩ := box_any w (.slice A G.nodes.length cap) (.slice B G.roots.length cb)
  have hw0 : Below w.heap.size w v0 := by rw [hq]; exact hb0
  have L0 : LN w v0 q (.slice A G.nodes.length cap) (.slice B G.roots.length cb) (.slice mA M.length mc) (.slice cA c.length cc) G M c := ⟨K, hg.below hw0, hm.below hw0, hc.below hw0, hw0⟩
  obtain ⟨c0, c1⟩ := L0.cells
  obtain ⟨hn30, hr30, ho30, hP30⟩ := fits_facts hF
  have HN : Aside (G.nodes.length ≤ 1000) := by show _ ≤ _; omega
  have HP : Aside ((allP G).length ≤ 100000) := by show _ ≤ _; omega
  have HP30 : Aside ((allP G).length ≤ 930) := by show _ ≤ _; omega
  have HRi := Lib.hid (rightB_ri hR)
  have HRt := Lib.hid hR
  have H3 := Lib.hid h3
  have HC3 := Lib.hid hc3
  have HCO := Lib.hid hco
  have HM3 := Lib.hid hm3
  have HMB := Lib.hid hmb
  have HI := Lib.hid hio
  have HA : Aside ((∀ c, reachA G c = reachL G c) ∧ deadA G = deadL G ∧ countsA G = countsL G) := ⟨fun c => reachA_right hR, by simp [deadA, hR], by simp [countsA, hR]⟩
  have cF := ln_fits L0
  have hfb : decide (60 < c.length) = false := by simp; omega
  rw [hF] at cF
  clear K hb0 hw0 hs0 h1 h2 h3 hg hm hc ho30 hF hio hco hc3 hmb hm3 hP30 hr30
  go_enter Try.func4, Try.ntmps4
  go_wp2_with fail
  refine cF.mono ?_
  rintro e w1 ⟨rfl, L1⟩
  clear c0 c1 cF
  obtain ⟨c0, c1⟩ := L1.cells
  have cR := ln_right L1 (by have := HN.out; omega)
  rw [hR] at cR
  clear hR
  go_wp2_with fail
  refine cR.mono ?_
  rintro e w2 ⟨rfl, L2⟩
  clear c0 c1 cR L1 L0 hv0
  obtain ⟨c0, c1⟩ := L2.cells
  have cC := rcounts_any G w2 _ L2.gr HN.out HP.out
  rw [HA.out.2.2] at cC
  go_wp2_with fail
  refine cC.mono ?_
  rintro e w3 ⟨uK, rfl, huK, hb3⟩
  have hK3 := Own.of huK
  have L3 := L2.more hb3
  have HB3 : Aside (Below w2.heap.size w2 w3) := hb3
  clear c0 c1 cC hb3 huK
  obtain ⟨c0, c1⟩ := L3.cells
  have cD := rdead_any G w3 _ L3.gr HN.out
  rw [HA.out.2.1] at cD
  go_wp2_with fail
  refine cD.mono ?_
  rintro e w4 ⟨uD, rfl, huD, hb4⟩
  have hD4 := Own.of huD
  have L4 : Aside (LN w w4 q (.slice A G.nodes.length cap) (.slice B G.roots.length cb) (.slice mA M.length mc) (.slice cA c.length cc) G M c) := L3.more hb4
  have HK : Aside (Own w4 uK (countsL G)) := hK3.1.below hb4
  have HKg : Aside (∀ g, uK.ownBlock = some g → w2.heap.size ≤ g ∧ g < w3.heap.size) := fun g hg => ⟨hK3.2 g hg, hK3.1.lt hg⟩
  have HD : Aside (Own w4 uD (deadL G)) := hD4.1
  have HDg : Aside (∀ g, uD.ownBlock = some g → w3.heap.size ≤ g) := hD4.2
  have HB4 : Aside (Below w2.heap.size w2 w4) := below_more HB3.out hb4
  have HB34 : Aside (Below w3.heap.size w3 w4) := hb4
  have HL2 := Lib.hid L2
  clear c0 c1 cD hb4 huD L3 hK3 hD4 L2
  obtain ⟨c0, c1⟩ := L4.out.cells
  go_wp2_with fail
  clear c0 c1
  go_loopg [11, 13] G.nodes.length (fun g s11 s13 wx => ∃ (j : Nat) (L : List Int) (rv : Value), j + g = G.nodes.length ∧ s13 = .int .i64 j ∧ rv = s11 ∧ Aside (L = (ids G).take j) ∧ L.length = j ∧ Aside (wx.ownsRow w4.heap.size 3 1 rv L.length (vals L)) ∧ Aside (Below w4.heap.size w4 wx))
  case atStart => exact ⟨0, [], _, by omega, rfl, rfl, rfl, rfl, World.ownsRow_nil _ _ _ _, Below.refl _ _⟩
  case round =>
    obtain ⟨j, L, rv, hj, rfl, rfl, hL, hlen, ho, hF⟩ := hrel
    obtain ⟨c0, c1⟩ := (L4.out.more hF.out).cells
    cases gk with
    | succ g =>
      obtain ⟨x, hx⟩ : ∃ x, G.nodes[j]? = some x := ⟨_, List.getElem?_eq_getElem (by omega)⟩
      obtain ⟨hxo, b, o, C, xc, rfl, hbl, a1, a2, _⟩ := H3.out j x hx
      have hlt : (j : Int) < G.nodes.length := by omega
      have d1 := ((L4.out.more hF.out).below.cell (p := ⟨b, _, none⟩) hbl).trans a1
      have HT : Aside ((ids G).take (j + 1) = L ++ [x.id]) := by
        show _ = _
        rw [take_ids hx, hL.out]
      have hsz := hF.out.size
      clear hx a1 a2 hxo hbl hL
      go_wp2_with (at_builtin; refine wpList_append_i _ rfl _ _ rfl w4.heap.size _ L rfl (ho.out.alloc _) _ 1 x.id rfl (one_int_at _ _) (by omega) (by first | omega | (simp; omega)) ?_; intro v1 w6 hown1 hb1; have O1 : Aside (w6.ownsRow w4.heap.size 3 1 v1 (L ++ [x.id]).length (vals (L ++ [x.id]))) := hown1; have B1 : Aside (Below w4.heap.size w4 w6) := (hF.out.alloc hsz _).trans hb1; clear hown1 hb1 d1 c0 c1)
      go_roundg g
      case measure => omega
      case rel => exact ⟨j + 1, L ++ [x.id], _, by omega, by go_num, rfl, HT.out.symm, by simp [hlen], O1.out, B1.out⟩
    | zero =>
      have : j = G.nodes.length := by omega
      subst this
      have hLe : L = ids G := by rw [hL.out, List.take_of_length_le (by rw [ids_length]; exact Nat.le_refl _)]
      subst hLe
      have HO5 := Own.of ho.out
      have HAg : Aside (∀ g, rv.ownBlock = some g → w3.heap.size ≤ g) := fun g hg => Nat.le_trans HB34.out.size (HO5.2 g hg)
      obtain ⟨w5, hw5⟩ : ∃ w5, w5 = wr := ⟨_, rfl⟩
      subst hw5
      have HA5 : Aside (Own w5 rv (ids G)) := HO5.1
      have HB5 : Aside (Below w4.heap.size w4 w5) := hF.out
      have L5 : Aside (LN w w5 q (.slice A G.nodes.length cap) (.slice B G.roots.length cb) (.slice mA M.length mc) (.slice cA c.length cc) G M c) := L4.out.more hF.out
      have hall : ∀ (x : Int) (wx : World), Below w5.heap.size w5 wx → Calls Try.prog 17 #[rv, .int .i64 x] wx fun e w' => e = .returned (.bool (Rt.hasB (ids G) x)) ∧ wx = w' := fun x wx hb => has_any _ x wx _ ((Rd.of_own HA5.out HI.out).below hb)
      have HH5 := Lib.hid hall
      have HK5 : Aside (Own w5 uK (countsL G)) := HK.out.below HB5.out
      have HD5 : Aside (Own w5 uD (deadL G)) := HD.out.below HB5.out
      clear hL hlen ho hF HO5 L4 hall HK HD
      go_wp2_with fail
      clear c0 c1
      go_loopg [12, 14] c.length (fun g s12 s14 wx => ∃ (j : Nat) (L : List Int) (rs : Value), j + g = c.length ∧ s14 = .int .i64 j ∧ rs = s12 ∧ Aside (L = (c.take j).filter (Rt.hasB (ids G))) ∧ L.length ≤ j ∧ Aside (wx.ownsRow w5.heap.size 3 1 rs L.length (vals L)) ∧ Aside (Below w5.heap.size w5 wx))
      case atStart => exact ⟨0, [], _, by omega, rfl, rfl, rfl, by simp, World.ownsRow_nil _ _ _ _, Below.refl _ _⟩
      case round =>
        obtain ⟨j, L, rs, hj, rfl, rfl, hL, hlen, ho, hF⟩ := hrel
        cases gk with
        | succ g =>
          obtain ⟨z, hz⟩ : ∃ z, c[j]? = some z := ⟨_, List.getElem?_eq_getElem (by omega)⟩
          obtain ⟨b, o, rfl, hbl, hcz⟩ := HC3.out j z hz
          have d1 := ((L5.out.more hF.out).below.cell (p := ⟨b, _, none⟩) hbl).trans hcz
          have hlt : (j : Int) < c.length := by omega
          have hh := HH5.out z wr hF.out
          have HT : Aside ((c.take (j + 1)).filter (Rt.hasB (ids G)) = L ++ if Rt.hasB (ids G) z then [z] else []) := by
            show _ = _
            rw [filter_snoc _ hz, hL.out]
          have hsz := hF.out.size
          clear hz hcz hbl hL
          generalize Rt.hasB (ids G) z = hv at *
          cases hv
          · go_wp2_with (go_at_call 17; refine hh.mono ?_; rintro e w6 ⟨rfl, rfl⟩)
            go_roundg g
            case measure => omega
            case rel => exact ⟨j + 1, L, _, by omega, by go_num, rfl, by show _ = _; rw [HT.out]; simp, by omega, ho.out, hF.out⟩
          · go_wp2_with (first
              | (go_at_call 17; refine hh.mono ?_; rintro e w6 ⟨rfl, rfl⟩)
              | (at_builtin; refine wpList_append_i _ rfl _ _ rfl w5.heap.size _ L rfl (ho.out.alloc _) _ 1 z rfl (one_int_at _ _) (by omega) (by first | omega | (simp; omega)) ?_; intro v1 w6 hown1 hb1; have O1 : Aside (w6.ownsRow w5.heap.size 3 1 v1 (L ++ [z]).length (vals (L ++ [z]))) := hown1; have B1 : Aside (Below w5.heap.size w5 w6) := (hF.out.alloc hsz _).trans hb1; clear hown1 hb1 d1 hh))
            go_roundg g
            case measure => omega
            case rel => exact ⟨j + 1, L ++ [z], _, by omega, by go_num, rfl, by show _ = _; rw [HT.out]; simp, by simp; omega, O1.out, B1.out⟩
        | zero =>
          have : j = c.length := by omega
          subst this
          have hLe : L = c.filter (Rt.hasB (ids G)) := by rw [hL.out, List.take_length]
          obtain ⟨w6, hw6⟩ : ∃ w6, w6 = wr := ⟨_, rfl⟩
          subst hw6
          have hrs : Rd w6 rs L := Rd.row ho.out (fun z hz => HCO.out z (by rw [hLe] at hz; exact (List.mem_filter.1 hz).1))
          have hwi : withinB L (ids G) = true := by rw [hLe]; exact within_some
          have L6 := L5.out.more hF.out
          have hK6 := HK5.out.below hF.out
          have hD6 := HD5.out.below hF.out
          have hA6 := HA5.out.below hF.out
          obtain ⟨c0, c1⟩ := L6.cells
          obtain ⟨be, ba⟩ := big_white HRt.out (own_big HP.out) hwi
          have cW := pwhite_any G (countsL G) L w6 _ _ _ L6.gr (Rd.of_own hK6 (counts_ok (own_big HP.out))) hrs HN.out
          rw [be, ba] at cW
          have HW1 : Aside (∀ z ∈ whiteL G (countsL G) (reachL G L), z ∈ deadL G) := fun z hz => white_dead HRi.out (own_big HP.out) hz
          have HW2 : Aside ((deadL G).all (Rt.hasB (reachL G L)) = true → whiteL G (countsL G) (reachL G L) = deadL G) := fun h => white_is_dead HRi.out HP.out (fun z hz => Rt.hasB_iff.1 (List.all_eq_true.1 h z hz))
          have HWl : Aside ((whiteL G (countsL G) (reachL G L)).length ≤ 1000) := by
            have h1 := List.length_filter_le (fun z => !Rt.hasB (reachL G (heldL G (countsL G) (reachL G L))) z) (reachL G L)
            have h2 := reach_len (G := G) L
            have h3 := HN.out
            show _ ≤ _
            unfold whiteL
            omega
          have HB6 : Aside (Below w5.heap.size w5 w6) := hF.out
          generalize whiteL G (countsL G) (reachL G L) = WL at *
          clear hL hlen ho hF L5 HK5 HD5 HA5 HH5 be ba hwi
          go_wp2_with fail
          refine cW.mono ?_
          rintro e w7 ⟨uW, rfl, huW, hb7⟩
          have hW7 := (Own.of huW).1
          have L7 := L6.more hb7
          have hK7 := hK6.below hb7
          have hD7 := hD6.below hb7
          have hA7 := hA6.below hb7
          have hrs7 := hrs.below hb7
          have HB7 : Aside (Below w6.heap.size w6 w7) := hb7
          clear cW huW hb7 c0 c1 L6 hK6 hD6 hA6 hrs
          obtain ⟨c0, c1⟩ := L7.cells
          obtain ⟨be, ba⟩ := big_white HRt.out (own_big HP.out) (within_ids (G := G))
          have cW := pwhite_any G (countsL G) (ids G) w7 _ _ _ L7.gr (Rd.of_own hK7 (counts_ok (own_big HP.out))) (Rd.of_own hA7 HI.out) HN.out
          rw [be, ba, white_is_dead HRi.out HP.out (all_reached HRi.out)] at cW
          clear be ba
          go_wp2_with fail
          refine cW.mono ?_
          rintro e w8 ⟨uV, rfl, huV, hb8⟩
          have hV8 := (Own.of huV).1
          have L8 := L7.more hb8
          have hK8 := hK7.below hb8
          have hD8 := hD7.below hb8
          have hA8 := hA7.below hb8
          have hW8 := hW7.below hb8
          have hrs8 := hrs7.below hb8
          have HB8 : Aside (Below w7.heap.size w7 w8) := hb8
          clear cW huV hb8 c0 c1 L7 hK7 hD7 hA7 hW7 hrs7
          obtain ⟨c0, c1⟩ := L8.cells
          have cR := rreach_any G L w8 _ _ L8.gr hrs8 HN.out
          rw [HA.out.1] at cR
          go_wp2_with fail
          refine cR.mono ?_
          rintro e w9 ⟨uR, rfl, huR, hb9⟩
          have hR9 : Rd w9 uR (reachL G L) := Rd.row huR (reach_ok HI.out)
          have HR9 : Aside (∀ x, Calls Try.prog 17 #[uR, .int .i64 x] w9 fun e w' => e = .returned (.bool (Rt.hasB (reachL G L) x)) ∧ w9 = w') := fun x => has_any _ x w9 _ hR9
          have L9 : Aside (LN w w9 q (.slice A G.nodes.length cap) (.slice B G.roots.length cb) (.slice mA M.length mc) (.slice cA c.length cc) G M c) := L8.more hb9
          have hK9 := hK8.below hb9
          have hD9 := hD8.below hb9
          have hA9 := hA8.below hb9
          have hW9 := hW8.below hb9
          have hV9 := hV8.below hb9
          have HB9 : Aside (Below w2.heap.size w2 w9) := below_more (below_more (below_more (below_more (below_more HB4.out HB5.out) HB6.out) HB7.out) HB8.out) hb9
          obtain ⟨dA, dc, rfl, _, hd3⟩ := own_form hD9
          obtain ⟨wA, wc, rfl, _, hw3⟩ := own_form hW9
          have HD3 := Lib.hid hd3
          have HW3 := Lib.hid hw3
          have HK9 := Lib.hid hK9
          have HD9 := Lib.hid hD9
          have HA9 := Lib.hid hA9
          have HW9 := Lib.hid hW9
          have HV9 := Lib.hid hV9
          obtain ⟨RL, hRL⟩ : ∃ RL, reachL G L = RL := ⟨_, rfl⟩
          rw [hRL] at HR9 HW2
          have hdl : (deadL G).length ≤ 1000 := by have := dead_len (G := G); omega
          have hwl : WL.length ≤ 1000 := HWl.out
          clear cR huR hb9 c0 c1 L8 hK8 hD8 hA8 hW8 hV8 hrs8 hR9 hK9 hD9 hA9 hW9 hV9 hd3 hw3 hRL hLe
          obtain ⟨dn, hdn⟩ : ∃ dn, (deadL G).length = dn := ⟨_, rfl⟩
          rw [hdn] at hdl
          rw [hdn]
          rw [hdn] at HD9 HDg
          have HDN := Lib.hid hdn
          clear hdn
          go_wp2_with fail
          go_loopg [21, 22] dn (fun g s21 s22 wx => ∃ (j : Nat) (bb : Bool), j + g = dn ∧ s22 = .int .i64 j ∧ s21 = .bool bb ∧ Aside (bb = ((deadL G).take j).all (Rt.hasB RL)) ∧ w9 = wx)
          case atStart => exact ⟨0, true, by omega, rfl, rfl, rfl, rfl⟩
          case round =>
            obtain ⟨j, bb, hj, rfl, rfl, hbb, rfl⟩ := hrel
            cases gk with
            | succ g =>
              obtain ⟨z, hz⟩ : ∃ z, (deadL G)[j]? = some z := ⟨_, List.getElem?_eq_getElem (by have := HDN.out; omega)⟩
              obtain ⟨pg, rfl, hcz⟩ := HD3.out j z hz
              have hlt : (j : Int) < dn := by omega
              have hh := HR9.out z
              have HT : Aside (((deadL G).take (j + 1)).all (Rt.hasB RL) = (bb && Rt.hasB RL z)) := by
                show _ = _
                rw [take_snoc hz, List.all_append, hbb.out]
                simp
              clear hz hbb
              generalize Rt.hasB RL z = hv at *
              cases bb <;> cases hv <;> (go_wp2_with (go_at_call 17; refine hh.mono ?_; rintro e w10 ⟨rfl, rfl⟩); go_roundg g; (case measure => omega); (case rel => exact ⟨j + 1, _, by omega, by go_num, rfl, HT.out.symm, rfl⟩))
            | zero =>
              have : j = dn := by omega
              subst this
              have HCV : Aside (bb = (deadL G).all (Rt.hasB RL)) := by
                have := hbb.out
                rw [List.take_of_length_le (by rw [HDN.out]; exact Nat.le_refl _)] at this
                exact this
              have cI := ints2_any WL (deadL G) w9 _ _ (Rd.of_own HW9.out (fun z hz => dead_ok HI.out z (HW1.out z hz))) (Rd.of_own HD9.out (dead_ok HI.out))
              have HJ : Aside (bb = true → decide (WL = deadL G) = true) := fun h => by
                rw [decide_eq_true_eq]
                exact HW2.out (by rw [← HCV.out]; exact h)
              clear hbb HW2
              generalize decide (WL = deadL G) = jb at *
              go_wp2_with fail
              refine cI.mono ?_
              rintro e w10 ⟨rfl, hb10⟩
              have HB10 : Aside (Below w9.heap.size w9 w10) := hb10
              have cI2 := ints_any (deadL G) (by rw [HDN.out]; exact hdl) w10 _ _ (HV9.out.below hb10) (HD9.out.below hb10)
              clear cI hb10
              go_wp2_with fail
              refine cI2.mono ?_
              rintro e w11 ⟨rfl, hb11⟩
              have HB11 : Aside (Below w9.heap.size w9 w11) := below_more HB10.out hb11
              clear cI2 hb11 HB10
              have HH11 : Aside (∀ (x : Int) (wx : World), Below w11.heap.size w11 wx → Calls Try.prog 17 #[.slice dA j dc, .int .i64 x] wx fun e w' => e = .returned (.bool (Rt.hasB (deadL G) x)) ∧ wx = w') := fun x wx h => has_any _ x wx _ ((Rd.of_own (HD9.out.below HB11.out) (dead_ok HI.out)).below h)
              have hj2 : bb = false ∨ (bb = true ∧ jb = true) := by
                cases hb : bb
                · exact .inl rfl
                · exact .inr ⟨rfl, HJ.out hb⟩
              clear HJ HCV HR9
              have HW11 : Aside (∀ (i : Nat) (z : Int), WL[i]? = some z → ∃ pg, wA = some ⟨pg, 0, none⟩ ∧ w11.cell? ⟨pg, i, none⟩ = some (.int .i64 z)) := fun i z hz => by
                obtain ⟨pg, e, hc⟩ := HW3.out i z hz
                exact ⟨pg, e, (HB11.out.cell (p := ⟨pg, _, none⟩) (World.block_lt_of_cell? _ _ hc)).trans hc⟩
              clear HW3
              rcases hj2 with rfl | ⟨rfl, rfl⟩
              all_goals
                go_wp2_with fail
                go_loopg [26] WL.length (fun g s26 wx => ∃ (i : Nat), i + g = WL.length ∧ s26 = .int .i64 i ∧ w11 = wx)
                case atStart => exact ⟨0, by omega, rfl, rfl⟩
                case round =>
                  obtain ⟨i, hi, rfl, rfl⟩ := hrel
                  cases gk with
                  | succ g =>
                    obtain ⟨z, hz⟩ : ∃ z, WL[i]? = some z := ⟨_, List.getElem?_eq_getElem (by omega)⟩
                    obtain ⟨pg, rfl, hcz⟩ := HW11.out i z hz
                    have hlt : (i : Int) < WL.length := by omega
                    have hh := HH11.out z w11 (Below.refl _ _)
                    rw [Rt.hasB_iff.2 (HW1.out z (List.mem_of_getElem? hz))] at hh
                    clear hz
                    go_wp2_with (go_at_call 17; refine hh.mono ?_; rintro e w12 ⟨rfl, rfl⟩)
                    go_roundg g
                    case measure => omega
                    case rel => exact ⟨i + 1, by omega, by go_num, rfl⟩
                  | zero =>
                    have : i = WL.length := by omega
                    subst this
                    have HK11 := HK9.out.below HB11.out
                    obtain ⟨kA, kc, rfl, hkA, _⟩ := own_formN countsL_len HK11
                    have HKA := Lib.hid hkA
                    have HKK : Aside (Own w11 (.slice kA G.nodes.length kc) (countsL G)) := HK11
                    have HKg2 : Aside (∀ g, (Value.slice kA G.nodes.length kc).ownBlock = some g → w2.heap.size ≤ g ∧ g < w3.heap.size) := HKg.out
                    have HD11 : Aside (Own w11 (.slice dA j dc) (deadL G)) := HD9.out.below HB11.out
                    have HA11 : Aside (Own w11 rv (ids G)) := HA9.out.below HB11.out
                    have HBB : Aside (Below w2.heap.size w2 w11) := below_more HB9.out HB11.out
                    have hml : M.length ≤ 9223372036854775807 := by omega
                    clear hkA HK11 HK9 HKg
                    go_wp2_with fail
                    go_loopg [28] G.nodes.length (fun g s28 wx => ∃ (t : Nat), t + g = G.nodes.length ∧ s28 = .int .i64 t ∧ Aside (Own wx (.slice kA G.nodes.length kc) (bump (countsL G) (M.take t))) ∧ Aside (Own wx (.slice dA j dc) (deadL G)) ∧ Aside (Own wx rv (ids G)) ∧ Aside (Below w2.heap.size w2 wx))
                    case atStart => exact ⟨0, by omega, rfl, by show Own _ _ _; rw [List.take_zero, bump_nil]; exact HKK.out, HD11.out, HA11.out, HBB.out⟩
                    case round =>
                      obtain ⟨t, ht, rfl, hK, hD, hA, hB⟩ := hrel
                      by_cases hgo : t < G.nodes.length ∧ t < M.length
                      · obtain ⟨hg1, hg2⟩ := hgo
                        cases gk with
                        | zero => omega
                        | succ g =>
                          obtain ⟨pg, rfl⟩ := HKA.out (by omega)
                          obtain ⟨x, hx⟩ : ∃ x, G.nodes[t]? = some x := ⟨_, List.getElem?_eq_getElem hg1⟩
                          obtain ⟨m, hm⟩ : ∃ m, M[t]? = some m := ⟨_, List.getElem?_eq_getElem hg2⟩
                          obtain ⟨b, o, rfl, hbl, hcm⟩ := HM3.out t m hm
                          have d2 := ((HL2.out.more hB.out).below.cell (p := ⟨b, _, none⟩) hbl).trans hcm
                          obtain ⟨hb1, hb2⟩ := bump_at _ _ _ _ _ (countsL_at hx) hm
                          have hbl2 : (bump (countsL G) (M.take t)).length = G.nodes.length := by rw [bump_len, countsL_len]
                          obtain ⟨_, _, e, _, hk3⟩ := own_formN hbl2 hK.out
                          simp only [Value.slice.injEq, true_and] at e
                          obtain ⟨rfl, rfl⟩ := e
                          obtain ⟨pg', e, c1⟩ := hk3 t _ hb1
                          simp only [Option.some.injEq, Addr.mk.injEq, and_true] at e
                          obtain rfl := e
                          have f1 := own_free hbl2 hK.out t
                          have hcb : (allP G).count x.id ≤ 930 := Nat.le_trans List.count_le_length HP30.out
                          obtain ⟨hm0, hm1⟩ := HMB.out m (List.mem_of_getElem? hm)
                          obtain ⟨hpl, hph⟩ := HKg2.out pg rfl
                          have hwr : w3.heap.size ≤ w4.heap.size := HB34.out.size
                          obtain ⟨a, ha⟩ : ∃ a : Nat, (allP G).count x.id = a := ⟨_, rfl⟩
                          rw [ha] at c1 hcb hb2
                          have HS1 : Aside (Own (wr.setCell ⟨pg, t, none⟩ (.int .i64 ((a : Int) + m))).drew (.slice (some ⟨pg, 0, none⟩) G.nodes.length kc) (bump (countsL G) (M.take (t + 1)))) := by
                            have h2 := own_store (j := t) (x := (a : Int) + m) hbl2 hK.out
                            rw [hb2] at h2
                            exact h2
                          have ho : Only [pg] wr (wr.setCell ⟨pg, t, none⟩ (.int .i64 ((a : Int) + m))).drew := ((Only.refl [pg] wr).setCell (p := ⟨pg, t, none⟩) (.inl (by simp)) _).drew
                          have HS2 : Aside (Own (wr.setCell ⟨pg, t, none⟩ (.int .i64 ((a : Int) + m))).drew (.slice dA j dc) (deadL G)) := hD.out.only ho (fun g hg => by have := HDg.out g hg; simp only [List.mem_singleton]; omega)
                          have HS3 : Aside (Own (wr.setCell ⟨pg, t, none⟩ (.int .i64 ((a : Int) + m))).drew rv (ids G)) := hA.out.only ho (fun g hg => by have := HAg.out g hg; simp only [List.mem_singleton]; omega)
                          have HS4 : Aside (Below w2.heap.size w2 (wr.setCell ⟨pg, t, none⟩ (.int .i64 ((a : Int) + m))).drew) := (hB.out.setCell (p := ⟨pg, t, none⟩) hpl _).drew
                          have hlt : (t : Int) < G.nodes.length := by omega
                          have hlt2 : (t : Int) < M.length := by omega
                          clear hx hm hcm hbl hb1 hb2 hk3 ha ho hpl hph hwr
                          go_wp2_with fail
                          go_region
                          clear c1 f1 d2
                          go_wp2_with fail
                          go_roundg g
                          case measure => omega
                          case rel => exact ⟨t + 1, by omega, by go_num, HS1.out, HS2.out, HS3.out, HS4.out⟩
                      · have hend : G.nodes.length ≤ t ∨ (t < G.nodes.length ∧ M.length ≤ t) := by omega
                        have hbig := bump_big (G := G) HP.out (take_bytes HMB.out t)
                        obtain ⟨K', hK'⟩ : ∃ K', bump (countsL G) (M.take t) = K' := ⟨_, rfl⟩
                        have hK0 := hK.out
                        rw [hK'] at hbig hK0
                        obtain ⟨w12, hw12⟩ : ∃ w12, w12 = wr := ⟨_, rfl⟩
                        subst hw12
                        have L12 := HL2.out.more hB.out
                        obtain ⟨c0, c1⟩ := L12.cells
                        obtain ⟨be, ba⟩ := big_white HRt.out hbig (within_ids (G := G))
                        have cW := pwhite_any G K' (ids G) w12 _ _ _ L12.gr (Rd.of_own hK0 (counts_ok hbig)) (Rd.of_own hA.out HI.out) HN.out
                        rw [be, ba] at cW
                        have HF1 : Aside (∀ z ∈ whiteL G K' (reachL G (ids G)), z ∈ deadL G) := fun z hz => white_dead HRi.out hbig hz
                        have hfl : (whiteL G K' (reachL G (ids G))).length ≤ 1000 := by
                          have h1 := List.length_filter_le (fun z => !Rt.hasB (reachL G (heldL G K' (reachL G (ids G)))) z) (reachL G (ids G))
                          have h2 := reach_len (G := G) (ids G)
                          have h3 := HN.out
                          unfold whiteL
                          omega
                        generalize whiteL G K' (reachL G (ids G)) = FL at *
                        have HD12 : Aside (Own w12 (.slice dA j dc) (deadL G)) := hD.out
                        have HL12 := Lib.hid L12
                        clear be ba hbig hK' hK hA hB hD hgo hK0 L12
                        rcases hend with hend | ⟨hend, hend2⟩
                        all_goals
                          go_wp2_with fail
                          refine cW.mono ?_
                          rintro e w13 ⟨uF, rfl, huF, hb13⟩
                          have hF13 := (Own.of huF).1
                          have L13 := HL12.out.more hb13
                          obtain ⟨fA, fc, rfl, _, hf3⟩ := own_form hF13
                          have hh13 : ∀ x, Calls Try.prog 17 #[.slice dA j dc, .int .i64 x] w13 fun e w' => e = .returned (.bool (Rt.hasB (deadL G) x)) ∧ w13 = w' := fun x => has_any _ x w13 _ ((Rd.of_own HD12.out (dead_ok HI.out)).below hb13)
                          have HH13 := Lib.hid hh13
                          have HF3 := Lib.hid hf3
                          have HL13 := Lib.hid L13
                          clear cW huF hF13 hf3 hb13 c0 c1 hh13 L13
                          go_wp2_with fail
                          go_loopg [31] FL.length (fun g s31 wx => ∃ (r : Nat), r + g = FL.length ∧ s31 = .int .i64 r ∧ w13 = wx)
                          case atStart => exact ⟨0, by omega, rfl, rfl⟩
                          case round =>
                            obtain ⟨r, hr, rfl, rfl⟩ := hrel
                            cases gk with
                            | succ g =>
                              obtain ⟨z, hz⟩ : ∃ z, FL[r]? = some z := ⟨_, List.getElem?_eq_getElem (by omega)⟩
                              obtain ⟨pg, rfl, hcz⟩ := HF3.out r z hz
                              have hlt : (r : Int) < FL.length := by omega
                              have hh := HH13.out z
                              rw [Rt.hasB_iff.2 (HF1.out z (List.mem_of_getElem? hz))] at hh
                              clear hz
                              go_wp2_with (go_at_call 17; refine hh.mono ?_; rintro e w14 ⟨rfl, rfl⟩)
                              go_roundg g
                              case measure => omega
                              case rel => exact ⟨r + 1, by omega, by go_num, rfl⟩
                            | zero =>
                              have : r = FL.length := by omega
                              subst this
                              have cA := ln_alive HL13.out
                              go_wp2_with fail
                              refine cA.mono ?_
                              rintro e w14 ⟨rfl, L14⟩
                              clear cA
                              go_wp2_with fail
                              go_ret
                              exact ⟨rfl, L14.below⟩

theorem never_any (G : Gp) (M c : List Int) (w : World) (gv mv cv : Value) (hg : GrAt w gv G) (hm : Rb w mv M) (hc : Rd w cv c) (hn : G.nodes.length ≤ 4398046511103) :
    Calls Try.prog 4 #[gv, mv, cv] w fun e w' => e = .returned (.bool true) ∧ Below w.heap.size w w' := by
  by_cases h : fitsB G = true ∧ rightB G = true ∧ c.length ≤ 60
  · exact never_main G M c w gv mv cv hg hm hc h.1 h.2.1 h.2.2
  · exact never_early G M c w gv mv cv hg hm hc hn h
end Tr
end Go.Proofs.Ytmnjbinmfbjbaaa
