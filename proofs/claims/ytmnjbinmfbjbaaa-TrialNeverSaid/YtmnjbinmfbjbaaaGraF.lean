/- The document's Dead, Counts. -/
import Derived.Test.YtmnjbinmfbjbaaaGraE
namespace Go.Proofs.Ytmnjbinmfbjbaaa
namespace Gr
open Go.RowKit Go.Maps

theorem filter_take {p : Int → Bool} {l : List Int} {j : Nat} {x : Int} (h : l[j]? = some x) : (l.take (j + 1)).filter p = (l.take j).filter p ++ (if p x then [x] else []) := by
  obtain ⟨hj, rfl⟩ := List.getElem?_eq_some_iff.1 h
  rw [List.take_succ_eq_append_getElem hj, List.filter_append]
  congr 1
  cases hp : p l[j] <;> simp [hp]
theorem reachA_ids {G : Gp} {fr : List Int} {z : Int} (h : z ∈ reachA G fr) : z ∈ ids G := by
  unfold reachA at h
  split at h
  · exact reach_ids h
  · cases h
theorem reachA_len {G : Gp} {fr : List Int} : (reachA G fr).length ≤ G.nodes.length := by
  unfold reachA
  split
  · exact reach_len fr
  · simp

set_option maxRecDepth 100000 in
set_option maxHeartbeats 1600000 in
theorem rdead_any (G : Gp) (w : World) (gv : Value) (hg : GrAt w gv G) (hn : G.nodes.length ≤ 1000) :
    Calls Try.prog 16 #[gv] w fun e w' => ∃ u, e = .returned u ∧ w'.ownsRow w.heap.size 3 1 u (deadA G).length (vals (deadA G)) ∧ Below w.heap.size w w' := by
  have hio := hg.ids_ok
  obtain ⟨A, cap, B, cb, rfl, h1, h2, h3⟩ := id hg
  obtain ⟨v0, q, hv0, hq, K, hb0, hs0⟩ := box_any w (.slice A G.nodes.length cap) (.slice B G.roots.length cb)
  have hg0 := hg.below (by rw [hq]; exact hb0 : Below w.heap.size w v0)
  have H3 := Lib.hid h3
  have H2 := Lib.hid h2
  have HG0 := Lib.hid hg0
  have e0 := K.cell (i := 0) rfl
  have e1 := K.cell (i := 1) rfl
  have HK := Lib.hid K
  have HB0 := Lib.hid hb0
  have HI := Lib.hid hio
  have cR := rright_any G v0 _ hg0 (by omega)
  clear h3 h2 K hb0 hg hg0 hio
  cases hr : rightB G
  · rw [hr] at cR
    have HA : Aside (deadA G = []) := by show _ = _; simp [deadA, hr]
    clear hr
    go_enter Try.func16, Try.ntmps16
    go_wp2_with fail
    refine cR.mono ?_
    rintro e w1 ⟨rfl, hb1⟩
    have HB1 : Aside (Below v0.heap.size v0 w1) := hb1
    clear hb1 cR e0 e1
    go_wp2_with fail
    go_ret
    exact ⟨_, rfl, by rw [HA.out]; exact World.ownsRow_nil _ _ _ _, by rw [hq]; exact HB0.out.trans (HB1.out.mono (by omega))⟩
  · rw [hr] at cR
    have HA : Aside (deadA G = deadL G ∧ reachA G G.roots = reachL G G.roots) := by constructor <;> simp [deadA, reachA, hr]
    clear hr
    go_enter Try.func16, Try.ntmps16
    go_wp2_with fail
    refine cR.mono ?_
    rintro e w1 ⟨rfl, hb1⟩
    have HB1 : Aside (Below v0.heap.size v0 w1) := hb1
    clear hb1 cR e0 e1
    have k0 := (HK.out.below HB1.out (by omega)).cell (i := 0) rfl
    have k1 := (HK.out.below HB1.out (by omega)).cell (i := 1) rfl
    have hw1 : Below w.heap.size w w1 := by rw [hq]; exact HB0.out.trans (HB1.out.mono (by omega))
    have cE := rreach_any G G.roots w1 _ _ (HG0.out.below HB1.out) (H2.out.below hw1) hn
    clear hw1
    go_wp2_with fail
    refine cE.mono ?_
    rintro e w2 ⟨u, rfl, hu, hb2⟩
    have HB2 : Aside (Below v0.heap.size v0 w2) := below_more HB1.out hb2
    have HU : Aside (Rd w2 u (reachL G G.roots)) := by
      show Rd _ _ _
      rw [← HA.out.2]
      exact Rd.row hu (fun z hz => HI.out z (reachA_ids hz))
    clear cE hu hb2 k0 k1
    have hw2 : Below w.heap.size w w2 := by rw [hq]; exact HB0.out.trans (HB2.out.mono (by omega))
    have keep : ∀ (wr : World), Below w2.heap.size w2 wr → wr.cell? ⟨q, 0, none⟩ = some (.slice A G.nodes.length cap) ∧ wr.cell? ⟨q, 1, none⟩ = some (.slice B G.roots.length cb) ∧ Below w.heap.size w wr ∧ Rd wr u (reachL G G.roots) := fun wr h => by
      have hb := below_more HB2.out h
      exact ⟨(HK.out.below hb (by omega)).cell (i := 0) rfl, (HK.out.below hb (by omega)).cell (i := 1) rfl, below_more hw2 h, HU.out.below h⟩
    have KP := Lib.hid keep
    have HWm : Aside (w.heap.size ≤ w2.heap.size) := hw2.size
    clear keep hw2
    go_wp2_with fail
    go_loopg [5, 6] G.nodes.length (fun g s12 s13 wx => ∃ (j : Nat) (L : List Int), j + g = G.nodes.length ∧ s13 = .int .i64 j ∧ Aside (L = ((ids G).take j).filter (fun z => !Rt.hasB (reachL G G.roots) z)) ∧ L.length ≤ j ∧ Aside (wx.ownsRow w2.heap.size 3 1 s12 L.length (vals L)) ∧ Aside (Below w2.heap.size w2 wx))
    case atStart => exact ⟨0, [], by omega, rfl, rfl, by simp, World.ownsRow_nil _ _ _ _, Below.refl _ _⟩
    case round =>
      obtain ⟨j, L, hj, rfl, hL, hlen, ho, hF⟩ := hrel
      obtain ⟨k0, k1, hbw, hlive⟩ := KP.out _ hF.out
      cases gk with
      | zero =>
        have : j = G.nodes.length := by omega
        subst this
        have HL : Aside (L = deadA G) := by
          show _ = _
          rw [hL.out, HA.out.1, List.take_of_length_le (by rw [ids_length]; exact Nat.le_refl _)]
          rfl
        have HBW := Lib.hid hbw
        clear hL hbw hlive
        go_wp2_with fail
        go_ret
        exact ⟨_, rfl, by rw [← HL.out]; exact row_low ho.out HWm.out, HBW.out⟩
      | succ g =>
        obtain ⟨x, hx⟩ : ∃ x, G.nodes[j]? = some x := ⟨_, List.getElem?_eq_getElem (by omega)⟩
        obtain ⟨hxo, b, o, C, cc, rfl, hbl, c1, c2, hrd⟩ := H3.out j x hx
        have hlt : (j : Int) < G.nodes.length := by omega
        have d1 := (hbw.cell (p := ⟨b, _, none⟩) hbl).trans c1
        have cH := has_any (reachL G G.roots) x.id wr u hlive
        have HT : Aside (((ids G).take (j + 1)).filter (fun z => !Rt.hasB (reachL G G.roots) z) = L ++ (if (!Rt.hasB (reachL G G.roots) x.id) then [x.id] else [])) := by
          show _ = _
          rw [filter_take (ids_at hx), hL.out]
        have hsz' := hF.out.size
        clear hx hxo c1 c2 hrd hL hbw hlive
        generalize Rt.hasB (reachL G G.roots) x.id = hv at *
        cases hv
        · go_wp2_with (first
            | (go_at_call 17; refine cH.mono ?_; rintro e w3 ⟨rfl, rfl⟩)
            | (at_builtin; refine wpList_append_i _ rfl _ _ rfl w2.heap.size _ L rfl (ho.out.alloc _) _ 1 x.id rfl (one_int_at _ _) (by omega) (by first | omega | (simp; omega)) ?_; intro v1 w4 hown1 hb1; have O1 : Aside (w4.ownsRow w2.heap.size 3 1 v1 (L ++ [x.id]).length (vals (L ++ [x.id]))) := hown1; have B1 : Aside (Below w2.heap.size w2 w4) := (hF.out.alloc hsz' _).trans hb1; clear hown1 hb1 d1 k0 k1))
          go_roundg g
          case measure => omega
          case rel => exact ⟨j + 1, L ++ [x.id], by omega, by go_num, by show _ = _; rw [HT.out]; simp, by simp; omega, O1.out, B1.out⟩
        · go_wp2_with (go_at_call 17; refine cH.mono ?_; rintro e w3 ⟨rfl, rfl⟩)
          go_roundg g
          case measure => omega
          case rel => exact ⟨j + 1, L, by omega, by go_num, by show _ = _; rw [HT.out]; simp, by omega, ho.out, hF.out⟩

def pcount (G : Gp) (z : Int) (i : Nat) : Nat := G.roots.count z + ((G.nodes.take i).flatMap Nd.out).count z
theorem pcount_succ {G : Gp} {i : Nat} {n : Nd} (h : G.nodes[i]? = some n) (z : Int) : pcount G z (i + 1) = pcount G z i + n.out.count z := by
  obtain ⟨hi, rfl⟩ := List.getElem?_eq_some_iff.1 h
  unfold pcount
  rw [List.take_succ_eq_append_getElem hi, List.flatMap_append, List.count_append]
  simp
  omega
theorem pcount_all (G : Gp) (z : Int) : pcount G z G.nodes.length = (allP G).count z := by
  unfold pcount allP
  rw [List.take_length, List.count_append]
theorem pcount_le (G : Gp) (z : Int) (i : Nat) : pcount G z i ≤ (allP G).length := by
  have h1 := List.count_le_length (a := z) (l := G.roots)
  have h3 : ((G.nodes.take i).flatMap Nd.out).count z ≤ (G.nodes.flatMap Nd.out).count z := by
    have e := List.take_append_drop i G.nodes
    rw [← e, List.flatMap_append, List.count_append, e]
    exact Nat.le_add_right _ _
  have h4 := List.count_le_length (a := z) (l := G.nodes.flatMap Nd.out)
  unfold pcount allP
  simp only [List.length_append]
  omega
theorem out_le {G : Gp} {n : Nd} (h : n ∈ G.nodes) : n.out.length ≤ (allP G).length := by
  have : n.out.length ≤ (G.nodes.flatMap Nd.out).length := by
    obtain ⟨l1, l2, e⟩ := List.append_of_mem h
    rw [e, List.flatMap_append, List.flatMap_cons]
    simp only [List.length_append]
    omega
  unfold allP
  simp only [List.length_append]
  omega

theorem wrap_add (c k : Nat) (h : c + k ≤ 100000) : wrap64 ((c : Int) + (k : Int)) = (c : Int) + (k : Int) := wrap64_of (by unfold i64ok; omega)
theorem cast_add (c k : Nat) : Value.int .i64 ((c : Int) + (k : Int)) = Value.int .i64 ((c + k : Nat) : Int) := by simp

set_option maxRecDepth 100000 in
set_option maxHeartbeats 1600000 in
theorem rcounts_any (G : Gp) (w : World) (gv : Value) (hg : GrAt w gv G) (hn : G.nodes.length ≤ 1000) (hP : (allP G).length ≤ 100000) :
    Calls Try.prog 15 #[gv] w fun e w' => ∃ u, e = .returned u ∧ w'.ownsRow w.heap.size 3 1 u (countsA G).length (vals (countsA G)) ∧ Below w.heap.size w w' := by
  obtain ⟨A, cap, B, cb, rfl, h1, h2, h3⟩ := id hg
  obtain ⟨v0, q, hv0, hq, K, hb0, hs0⟩ := box_any w (.slice A G.nodes.length cap) (.slice B G.roots.length cb)
  have hg0 := hg.below (by rw [hq]; exact hb0 : Below w.heap.size w v0)
  have H3 := Lib.hid h3
  have H2 := Lib.hid h2
  have e0 := K.cell (i := 0) rfl
  have e1 := K.cell (i := 1) rfl
  have HK := Lib.hid K
  have HB0 := Lib.hid hb0
  have cR := rright_any G v0 _ hg0 (by omega)
  clear h3 h2 K hb0 hg hg0
  cases hr : rightB G
  · rw [hr] at cR
    have HA : Aside (countsA G = []) := by show _ = _; simp [countsA, hr]
    clear hr
    go_enter Try.func15, Try.ntmps15
    go_wp2_with fail
    refine cR.mono ?_
    rintro e w1 ⟨rfl, hb1⟩
    have HB1 : Aside (Below v0.heap.size v0 w1) := hb1
    clear hb1 cR e0 e1
    go_wp2_with fail
    go_ret
    exact ⟨_, rfl, by rw [HA.out]; exact World.ownsRow_nil _ _ _ _, by rw [hq]; exact HB0.out.trans (HB1.out.mono (by omega))⟩
  · rw [hr] at cR
    have HA : Aside (countsA G = countsL G) := by show _ = _; simp [countsA, hr]
    clear hr
    go_enter Try.func15, Try.ntmps15
    go_wp2_with fail
    refine cR.mono ?_
    rintro e w2 ⟨rfl, hb1⟩
    have HB2 : Aside (Below v0.heap.size v0 w2) := hb1
    clear hb1 cR e0 e1
    have hw2 : Below w.heap.size w w2 := by rw [hq]; exact HB0.out.trans (HB2.out.mono (by omega))
    have keep : ∀ (wr : World), Below w2.heap.size w2 wr → wr.cell? ⟨q, 0, none⟩ = some (.slice A G.nodes.length cap) ∧ wr.cell? ⟨q, 1, none⟩ = some (.slice B G.roots.length cb) ∧ Below w.heap.size w wr ∧ Rd wr (.slice B G.roots.length cb) G.roots := fun wr h => by
      have hb := below_more HB2.out h
      exact ⟨(HK.out.below hb (by omega)).cell (i := 0) rfl, (HK.out.below hb (by omega)).cell (i := 1) rfl, below_more hw2 h, H2.out.below (below_more hw2 h)⟩
    have KP := Lib.hid keep
    have HWm : Aside (w.heap.size ≤ w2.heap.size) := hw2.size
    clear keep hw2
    go_wp2_with fail
    go_loopg [4, 5] G.nodes.length (fun g s12 s13 wx => ∃ (j : Nat) (L : List Int), j + g = G.nodes.length ∧ s13 = .int .i64 j ∧ Aside (L = (countsL G).take j) ∧ L.length ≤ j ∧ Aside (wx.ownsRow w2.heap.size 3 1 s12 L.length (vals L)) ∧ Aside (Below w2.heap.size w2 wx))
    case atStart => exact ⟨0, [], by omega, rfl, rfl, by simp, World.ownsRow_nil _ _ _ _, Below.refl _ _⟩
    case round =>
      obtain ⟨j, L, hj, rfl, hL, hlen, ho, hF⟩ := hrel
      obtain ⟨k0, k1, hbw, hrt⟩ := KP.out _ hF.out
      cases gk with
      | zero =>
        have : j = G.nodes.length := by omega
        subst this
        have HL : Aside (L = countsA G) := by
          show _ = _
          rw [hL.out, HA.out, List.take_of_length_le (by unfold countsL; rw [List.length_map, ids_length]; exact Nat.le_refl _)]
        have HBW := Lib.hid hbw
        clear hL hbw hrt
        go_wp2_with fail
        go_ret
        exact ⟨_, rfl, by rw [← HL.out]; exact row_low ho.out HWm.out, HBW.out⟩
      | succ g =>
        obtain ⟨x, hx⟩ : ∃ x, G.nodes[j]? = some x := ⟨_, List.getElem?_eq_getElem (by omega)⟩
        obtain ⟨hxo, b, o, C, cc, rfl, hbl, c1, c2, hrd⟩ := H3.out j x hx
        have hlt : (j : Int) < G.nodes.length := by omega
        have d1 := (hbw.cell (p := ⟨b, _, none⟩) hbl).trans c1
        have hRl : G.roots.length ≤ 100000 := by
          have : G.roots.length ≤ (allP G).length := by unfold allP; simp
          omega
        have cT : ∀ n, Calls Try.prog 25 #[.slice B G.roots.length cb, .int .i64 x.id] (wr.drewN n) fun e w' => e = .returned (.int .i64 (G.roots.count x.id)) ∧ wr.drewN n = w' := fun n => times_any _ _ _ _ (hrt.below (below_drewN (Below.refl _ wr) n)) hRl
        have HT : Aside ((countsL G).take (j + 1) = L ++ [(((allP G).count x.id : Nat) : Int)]) := by
          show _ = _
          have h1 : (countsL G)[j]? = some (((allP G).count x.id : Nat) : Int) := by
            unfold countsL
            rw [List.getElem?_map, ids_at hx]; rfl
          obtain ⟨hj1, he⟩ := List.getElem?_eq_some_iff.1 h1
          rw [List.take_succ_eq_append_getElem hj1, he, hL.out]
        have HX : Aside (w.cell? ⟨b, o + j * 2, none⟩ = some (.int .i64 x.id) ∧ G.nodes[j]? = some x) := ⟨c1, hx⟩
        have H0 : Aside (G.roots.count x.id = pcount G x.id 0) := by show _ = _; simp [pcount]
        have hcb : G.roots.count x.id ≤ 100000 := by have := pcount_le G x.id 0; have := H0.out; omega
        have HCB := Lib.hid hcb
        clear hx hxo c1 c2 hrd hL hbw hrt hcb hRl
        generalize hc0 : G.roots.count x.id = c0 at *
        clear hc0
        go_wp2_with fail
        go_quiet ((go_at_call 25; exact quiet_left (cT _)))
        go_wp2_with fail
        have HD : Aside (Below w2.heap.size w2 (wr.drewN nq) ∧ (wr.drewN nq).ownsRow w2.heap.size 3 1 u4 L.length (vals L)) := ⟨below_drewN hF.out nq, ho.out⟩
        clear k0 k1 d1 cT
        generalize wr.drewN nq = wy at *
        clear hF ho
        go_loopg [6, 7] G.nodes.length (fun g s6 s7 wx => ∃ (i c : Nat), i + g = G.nodes.length ∧ s7 = .int .i64 i ∧ s6 = .int .i64 c ∧ Aside (c ≤ 100000) ∧ Aside (c = pcount G x.id i) ∧ Aside (Below w2.heap.size w2 wx ∧ wx.ownsRow w2.heap.size 3 1 u4 L.length (vals L)))
        case atStart => exact ⟨0, c0, by omega, rfl, rfl, HCB.out, H0.out, HD.out⟩
        case round =>
          obtain ⟨i, c, hi, rfl, rfl, hcl, hc, hF⟩ := hrel
          obtain ⟨k0, k1, hbw, _⟩ := KP.out _ hF.out.1
          cases gk with
          | zero =>
            have : i = G.nodes.length := by omega
            subst this
            have HC : Aside (((allP G).count x.id : Int) = c) := by
              show _ = _
              rw [hc.out, pcount_all]
            have hsz' := hF.out.1.size
            clear hc hbw HD
            go_wp2_with (at_builtin; refine wpList_append_i _ rfl _ _ rfl w2.heap.size _ L rfl (hF.out.2.alloc _) _ 1 (c : Int) rfl (one_int_at _ _) (by omega) (by first | omega | (simp; omega)) ?_; intro v1 w4 hown1 hb1; have O1 : Aside (w4.ownsRow w2.heap.size 3 1 v1 (L ++ [(c : Int)]).length (vals (L ++ [(c : Int)]))) := hown1; have B1 : Aside (Below w2.heap.size w2 w4) := (hF.out.1.alloc hsz' _).trans hb1; clear hown1 hb1 k0 k1)
            go_roundg g
            case measure => omega
            case rel => exact ⟨j + 1, L ++ [(c : Int)], by omega, by go_num, by show _ = _; rw [HT.out, HC.out], by simp; omega, O1.out, B1.out⟩
          | succ gi =>
            obtain ⟨y, hy⟩ : ∃ y, G.nodes[i]? = some y := ⟨_, List.getElem?_eq_getElem (by omega)⟩
            obtain ⟨_, b', o', C', cc', e', _, a1, a2, hyr⟩ := H3.out i y hy
            simp only [Option.some.injEq, Addr.mk.injEq, and_true] at e'
            obtain ⟨rfl, rfl⟩ := e'
            have hli : (i : Int) < G.nodes.length := by omega
            have d1 := (hbw.cell (p := ⟨b, _, none⟩) hbl).trans HX.out.1
            have d2 := (hbw.cell (p := ⟨b, _, none⟩) hbl).trans a2
            have hyl := out_le (List.mem_of_getElem? hy)
            have cT : ∀ n, Calls Try.prog 25 #[.slice C' y.out.length cc', .int .i64 x.id] (wr.drewN n) fun e w' => e = .returned (.int .i64 (y.out.count x.id)) ∧ wr.drewN n = w' := fun n => times_any _ _ _ _ (hyr.below (below_drewN hbw n)) (by omega)
            have HN : Aside (c + y.out.count x.id = pcount G x.id (i + 1)) := by
              show _ = _
              rw [pcount_succ hy, hc.out]
            have hcn : c + y.out.count x.id ≤ 100000 := by have h1 := pcount_le G x.id (i + 1); have h2 := HN.out; omega
            have hwr := Lib.hid (wrap_add c (y.out.count x.id) hcn)
            have HCN := Lib.hid hcn
            clear hy a1 a2 hyr hyl hc hbw hcl hcn
            generalize y.out.count x.id = cy at *
            go_wp2_with fail
            go_quiet ((go_at_call 25; exact quiet_left (cT _)))
            go_wp2_with fail
            go_roundg gi
            case measure => omega
            case rel => exact ⟨i + 1, c + cy, by omega, by go_num, by rw [hwr.out]; exact cast_add _ _, HCN.out, HN.out, below_drewN hF.out.1 _, hF.out.2⟩
end Gr
end Go.Proofs.Ytmnjbinmfbjbaaa
