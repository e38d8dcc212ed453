/- The program's Counts. -/
import Derived.Test.YtngcncmpdlfbmaaGraJ
namespace Go.Proofs.Ytngcncmpdlfbmaa
namespace Gr
open Go.RowKit Go.Maps

theorem Try.zeroIntG (w : World) : (zeroValue 3).run Try.prog w = .ok (.int .i64 0) w := by kernel_rfl
/-- Block t is a map that tells how often each stands in m. -/
structure Tm (wr : World) (t n : Nat) (m : List Int) (D : DataW Unit) : Prop where
  own : wr.ownsMap Try.prog 3 (plainElem Try.prog 3) t n D
  cnt : ∀ z, D.atKey (Rt.ky z) (.lit (.int .i64 0)) = .lit (.int .i64 (m.count z : Int))
section
variable {wr wr' : World} {t n : Nat} {m : List Int} {D : DataW Unit}
theorem Tm.only {T : List Nat} (h : Tm wr t n m D) (ho : Only T wr wr') (hm : t ∉ T) : Tm wr' t n m D := ⟨map_only h.own ho hm, h.cnt⟩
theorem Tm.below (h : Tm wr t n m D) (hb : Below wr.heap.size wr wr') : Tm wr' t n m D := h.only (Only.of_below (S := []) hb) (by simp)
theorem Tm.look (h : Tm wr t n m D) {x : Int} (hx : i64ok x) : (Instr.lookup 43 (.map (some t)) (.int .i64 x) false).run Try.prog wr = .ok (.int .i64 (m.count x : Int)) wr := by
  obtain ⟨c, hrun, hv, _⟩ := h.own.lookup_int Try.lawIntG Try.underlying43 Try.underlying3 (Try.zeroIntG wr) (keyOf_int_mk Try.underlying3 (Rt.i64_wf hx))
  rw [show (Lit.int .i64 x) = Rt.ky x from rfl, h.cnt] at hv
  simp only [DataW.lit.injEq, Lit.int.injEq, true_and] at hv
  rw [hrun, ← hv]
theorem Tm.put (h : Tm wr t n m D) (x : Int) {v : Int} (hv : v = (m.count x : Int) + 1) (hown : wr'.ownsMap Try.prog 3 (plainElem Try.prog 3) t (n + 1) (D.put (Rt.ky x) (.lit (.int .i64 v)))) :
    Tm wr' t (n + 1) (m ++ [x]) (D.put (Rt.ky x) (.lit (.int .i64 v))) := by
  have hI := map_isMap h.own
  refine ⟨hown, fun z => ?_⟩
  by_cases e : x = z
  · subst e
    rw [atKey_put_same hI (ky_key _), hv, List.count_append]
    simp
  · rw [atKey_put_other (ky_ne (fun e' => e e'.symm)), h.cnt, List.count_append]
    have : [x].count z = 0 := List.count_eq_zero.2 (by simp; exact fun h => e h.symm)
    rw [this]
    rfl
end
theorem cells_set {C I : List Int} {j : Nat} {c : Int} (hl : C.length = I.length) (h : C[j]? = some c) : (C.take j ++ I.drop j).set j c = C.take (j + 1) ++ I.drop (j + 1) := by
  obtain ⟨hj, rfl⟩ := List.getElem?_eq_some_iff.1 h
  have e : I.drop j = I[j]'(by omega) :: I.drop (j + 1) := List.drop_eq_getElem_cons (by omega)
  have h0 : j - (C.take j).length = 0 := by simp; omega
  rw [List.set_append_right _ _ (by simp; omega), h0, e, List.set_cons_zero, List.take_succ_eq_append_getElem hj, List.append_assoc]
  rfl
theorem count_wf (c : Nat) (h : c ≤ 200000) : (Lit.int .i64 ((c : Int) + 1)).wf = true := Rt.i64_wf (by unfold i64ok; omega)

set_option maxRecDepth 100000 in
set_option maxHeartbeats 3200000 in
theorem pcounts_any (G : Gp) (w : World) (gv : Value) (hg : GrAt w gv G) (hn : G.nodes.length ≤ 1000) (hP : (allP G).length ≤ 100000) :
    Calls Try.prog 12 #[gv] w fun e w' => ∃ u, e = .returned u ∧ w'.ownsRow w.heap.size 3 1 u (countsA G).length (vals (countsA G)) ∧ Below w.heap.size w w' := by
  have hio := hg.ids_ok
  obtain ⟨A, cap, B, cb, rfl, h1, h2, h3⟩ := id hg
  obtain ⟨v0, q, hv0, hq, K, hb0, hs0⟩ := box_any w (.slice A G.nodes.length cap) (.slice B G.roots.length cb)
  have hw0 : Below w.heap.size w v0 := by rw [hq]; exact hb0
  have hg0 := hg.below hw0
  have H3 := Lib.hid h3
  have H2 := Lib.hid h2
  have HG0 := Lib.hid hg0
  have e0 := K.cell (i := 0) rfl
  have e1 := K.cell (i := 1) rfl
  have HK := Lib.hid K
  have HB0 := Lib.hid hb0
  have HI := Lib.hid hio
  have HP := Lib.hid hP
  have cR := pright_any G v0 _ hg0 hn
  have hmm := @run_makeMap Try.prog
  clear h3 h2 K hb0 hg hg0 hw0 hio hP
  cases hr : rightB G
  · rw [hr] at cR
    have HA : Aside (countsA G = []) := by show _ = _; simp [countsA, hr]
    clear hr
    go_enter Try.func12, Try.ntmps12
    go_wp2_with fail
    refine cR.mono ?_
    rintro e w1 ⟨rfl, hb1⟩
    have HB1 : Aside (Below v0.heap.size v0 w1) := hb1
    clear hb1 cR e0 e1
    go_wp2_with fail
    go_ret
    exact ⟨_, rfl, by rw [HA.out]; exact World.ownsRow_nil _ _ _ _, by rw [hq]; exact HB0.out.trans (HB1.out.mono (by omega))⟩
  · rw [hr] at cR
    have HA : Aside (countsA G = countsL G) := by show _ = _; simp [countsA, hr]
    clear hr
    go_enter Try.func12, Try.ntmps12
    go_wp2_with fail
    refine cR.mono ?_
    rintro e w1 ⟨rfl, hb1⟩
    have HB1 : Aside (Below v0.heap.size v0 w1) := hb1
    have hw1 : Below w.heap.size w w1 := by rw [hq]; exact HB0.out.trans (HB1.out.mono (by omega))
    obtain ⟨v2, hv2, t, ht, F0⟩ : ∃ v2, w1.alloc (.map #[] 0) = v2 ∧ ∃ t, w1.heap.size = t ∧ (Tm v2 t 0 [] (.map []) ∧ Below w1.heap.size w1 v2) :=
      ⟨_, rfl, _, rfl, ⟨World.ownsMap_made w1 _ _ _, fun z => rfl⟩, (Below.refl _ w1).alloc (Nat.le_refl _) _⟩
    have keep : ∀ (wr : World), Below w1.heap.size w1 wr → wr.cell? ⟨q, 0, none⟩ = some (.slice A G.nodes.length cap) ∧ wr.cell? ⟨q, 1, none⟩ = some (.slice B G.roots.length cb) ∧ Below w.heap.size w wr ∧ Below v0.heap.size v0 wr := fun wr h => by
      have hb := below_more HB1.out h
      exact ⟨(HK.out.below hb (by omega)).cell (i := 0) rfl, (HK.out.below hb (by omega)).cell (i := 1) rfl, below_more hw1 h, hb⟩
    obtain ⟨k0, k1, _, _⟩ := keep _ F0.2
    have HF0 := Lib.hid F0
    have KP := Lib.hid keep
    have HW1 := Lib.hid hw1
    clear hb1 cR e0 e1 keep hw1 F0
    obtain ⟨hro, rB, rc, hre, hr1, hr2, hr3⟩ := H2.out
    simp only [Value.slice.injEq, true_and] at hre
    obtain ⟨rfl, rfl⟩ := hre
    have HR3 := Lib.hid hr3
    have HRO := Lib.hid hro
    clear hr3 hro
    go_wp2_with fail
    clear k0 k1 hmm
    go_loopg [20] G.roots.length (fun g s20 wx => ∃ (j : Nat) (D : DataW Unit), j + g = G.roots.length ∧ s20 = .int .i64 j ∧ Aside (Tm wx t j (G.roots.take j) D) ∧ Aside (Below w1.heap.size w1 wx))
    case atStart => exact ⟨0, _, by omega, rfl, HF0.out.1, HF0.out.2⟩
    case round =>
      obtain ⟨j, D, hj, rfl, hT, hF⟩ := hrel
      obtain ⟨k0, k1, hbw, _⟩ := KP.out _ hF.out
      have hRl : G.roots.length ≤ (allP G).length := by unfold allP; simp
      cases gk with
      | succ g =>
        obtain ⟨z, hz⟩ : ∃ z, G.roots[j]? = some z := ⟨_, List.getElem?_eq_getElem (by omega)⟩
        obtain ⟨b, o, rfl, hbl, hc⟩ := HR3.out j z hz
        have d1 := (hbw.cell (p := ⟨b, _, none⟩) hbl).trans hc
        have hzo := HRO.out z (List.mem_of_getElem? hz)
        have hlt : (j : Int) < G.roots.length := by omega
        have hlk := hT.out.look hzo
        have hkey := keyOf_int_mk Try.underlying3 (Rt.i64_wf hzo)
        have hcl : (G.roots.take j).count z ≤ 100000 := by
          have h1 := List.count_le_length (a := z) (l := G.roots.take j)
          have h2 := HP.out
          simp only [List.length_take] at h1
          omega
        have hwf := count_wf _ (Nat.le_trans hcl (by omega))
        have hjm : j < maxLen := by have := HP.out; unfold maxLen; omega
        have HX : Aside (G.roots.take (j + 1) = G.roots.take j ++ [z]) := by
          show _ = _
          obtain ⟨h1, rfl⟩ := List.getElem?_eq_some_iff.1 hz
          exact List.take_succ_eq_append_getElem h1
        have HV : Aside ((((G.roots.take j).count z : Nat) : Int) = ((G.roots.take j).count z : Nat)) := rfl
        clear hz hc hzo hbw hRl
        generalize hcc : (G.roots.take j).count z = c at hlk hcl hwf
        have HC := Lib.hid hcc
        clear hcc k0 k1
        go_wp2_with (at_mapUpdate; refine wpList_mapUpdate_in _ rfl _ _ _ 43 rfl 3 3 Try.lawIntG Try.underlying43 _ t j D rfl hT.out.own hjm _ _ _ rfl rfl hkey _ [] (plainElem_int Try.underlying3 hwf) ?_; intro w3 hown3 hturn3; have T3 : Aside (Tm w3 t (j + 1) _ _) := hT.out.put z (by rw [HC.out]) hown3; have B3 : Aside (Below w1.heap.size w1 w3) := hF.out.grown hturn3.grown hF.out.size (fun g hg => by simp only [Option.some.injEq] at hg; omega); clear hown3 hturn3 d1 hlk)
        go_roundg g
        case measure => omega
        case rel => exact ⟨j + 1, _, by omega, by go_num, by show Tm _ _ _ _ _; rw [HX.out]; exact T3.out, B3.out⟩
      | zero =>
        have : j = G.roots.length := by omega
        subst this
        have HT1 : Aside (Tm wr t G.roots.length (G.roots ++ (G.nodes.take 0).flatMap Nd.out) D) := by
          have := hT.out
          rw [List.take_length] at this
          show Tm _ _ _ _ _
          simpa using this
        have hF1 : Aside (Below w1.heap.size w1 wr) := hF.out
        clear hT hbw hF hRl
        go_wp2_with fail
        clear k0 k1
        go_loopg [32] G.nodes.length (fun g s32 wx => ∃ (i n : Nat) (D : DataW Unit), i + g = G.nodes.length ∧ s32 = .int .i64 i ∧ Aside (n ≤ 100000) ∧ Aside (n = (G.roots ++ (G.nodes.take i).flatMap Nd.out).length) ∧ Aside (Tm wx t n (G.roots ++ (G.nodes.take i).flatMap Nd.out) D) ∧ Aside (Below w1.heap.size w1 wx))
        case atStart => exact ⟨0, G.roots.length, D, by omega, rfl, by have := HP.out; have h2 : G.roots.length ≤ (allP G).length := by { unfold allP; simp }; show _ ≤ _; omega, by show _ = _; simp, HT1.out, hF1.out⟩
        case round =>
          obtain ⟨i, n, D, hi, rfl, hnl, hnn, hT, hF⟩ := hrel
          obtain ⟨k0, k1, hbw, _⟩ := KP.out _ hF.out
          clear HT1 hF1
          cases gk with
          | succ g =>
            obtain ⟨x, hx⟩ : ∃ x, G.nodes[i]? = some x := ⟨_, List.getElem?_eq_getElem (by omega)⟩
            obtain ⟨hxo, b, o, C, cc, rfl, hbl, c1, c2, hrd⟩ := H3.out i x hx
            have hlt : (i : Int) < G.nodes.length := by omega
            have d1 := (hbw.cell (p := ⟨b, _, none⟩) hbl).trans c1
            have d2 := (hbw.cell (p := ⟨b, _, none⟩) hbl).trans c2
            have HB3 : Aside (Below w1.heap.size w1 (wr.alloc (.cells #[.int .i64 x.id, .slice C x.out.length cc] 33))) := hF.out.alloc hF.out.size _
            have HT3 : Aside (Tm (wr.alloc (.cells #[.int .i64 x.id, .slice C x.out.length cc] 33)) t n (G.roots ++ (G.nodes.take i).flatMap Nd.out ++ x.out.take 0) D) := by
              show Tm _ _ _ _ _
              simpa using hT.out.below ((Below.refl _ wr).alloc (Nat.le_refl _) _)
            have hxl : x.out.length ≤ 9223372036854775807 := by
              obtain ⟨_, _, _, e, h1, h2, _⟩ := id hrd
              omega
            obtain ⟨hxr, xA, xc, hxe, _, _, hx3⟩ := id hrd
            simp only [Value.slice.injEq, true_and] at hxe
            obtain ⟨rfl, rfl⟩ := hxe
            have HX3 := Lib.hid hx3
            have HXR := Lib.hid hxr
            have HS : Aside ((G.roots ++ (G.nodes.take i).flatMap Nd.out) ++ x.out = G.roots ++ (G.nodes.take (i + 1)).flatMap Nd.out) := by
              show _ = _
              obtain ⟨h1, rfl⟩ := List.getElem?_eq_some_iff.1 hx
              rw [List.take_succ_eq_append_getElem h1, List.flatMap_append]
              simp
            have HLe : Aside (n + x.out.length ≤ 100000) := by
              have e : allP G = ((G.roots ++ (G.nodes.take i).flatMap Nd.out) ++ x.out) ++ (G.nodes.drop (i + 1)).flatMap Nd.out := by
                rw [HS.out, List.append_assoc, ← List.flatMap_append, List.take_append_drop]
                rfl
              have h2 := congrArg List.length e
              simp only [List.length_append] at h2
              have h3 := hnn.out
              simp only [List.length_append] at h3
              have := HP.out
              show _ ≤ _
              omega
            clear hx hxo c1 c2 hrd hx3 hxr hbw hT hF hbl
            go_wp2_with fail
            clear d1 d2 k0 k1
            go_loopg [39] x.out.length (fun g s39 wx => ∃ (k : Nat) (D : DataW Unit), k + g = x.out.length ∧ s39 = .int .i64 k ∧ Aside (Tm wx t (n + k) (G.roots ++ (G.nodes.take i).flatMap Nd.out ++ x.out.take k) D) ∧ Aside (Below w1.heap.size w1 wx))
            case atStart => exact ⟨0, D, by omega, rfl, HT3.out, HB3.out⟩
            case round =>
              obtain ⟨k, D, hk, rfl, hT, hF⟩ := hrel
              obtain ⟨k0, k1, hbw, _⟩ := KP.out _ hF.out
              clear HT3 HB3
              cases gk with
              | zero =>
                have : k = x.out.length := by omega
                subst this
                have HT4 : Aside (Tm wr t (n + x.out.length) (G.roots ++ (G.nodes.take (i + 1)).flatMap Nd.out) D) := by
                  have := hT.out
                  rw [List.take_length, HS.out] at this
                  exact this
                have HN4 : Aside (n + x.out.length = (G.roots ++ (G.nodes.take (i + 1)).flatMap Nd.out).length) := by
                  show _ = _
                  rw [← HS.out, List.length_append, ← hnn.out]
                clear hT hbw k0 k1
                go_wp2_with fail
                go_roundg g
                case measure => omega
                case rel => exact ⟨i + 1, n + x.out.length, D, by omega, by go_num, HLe.out, HN4.out, HT4.out, hF.out⟩
              | succ gi =>
                obtain ⟨z, hz⟩ : ∃ z, x.out[k]? = some z := ⟨_, List.getElem?_eq_getElem (by omega)⟩
                obtain ⟨b', o', rfl, hbl', hc⟩ := HX3.out k z hz
                have d1 := (hbw.cell (p := ⟨b', _, none⟩) hbl').trans hc
                have hzo := HXR.out z (List.mem_of_getElem? hz)
                have hlk' : (k : Int) < x.out.length := by omega
                have hlk := hT.out.look hzo
                have hkey := keyOf_int_mk Try.underlying3 (Rt.i64_wf hzo)
                have hcl : (G.roots ++ (G.nodes.take i).flatMap Nd.out ++ x.out.take k).count z ≤ 100000 := by
                  have h1 := List.count_le_length (a := z) (l := G.roots ++ (G.nodes.take i).flatMap Nd.out ++ x.out.take k)
                  have h2 := HLe.out
                  have h3 := hnn.out
                  rw [List.length_append, ← h3, List.length_take] at h1
                  omega
                have hwf := count_wf _ (Nat.le_trans hcl (by omega))
                have hjm : n + k < maxLen := by have := HLe.out; unfold maxLen; omega
                have HX : Aside (G.roots ++ (G.nodes.take i).flatMap Nd.out ++ x.out.take (k + 1) = (G.roots ++ (G.nodes.take i).flatMap Nd.out ++ x.out.take k) ++ [z]) := by
                  show _ = _
                  obtain ⟨h1, rfl⟩ := List.getElem?_eq_some_iff.1 hz
                  rw [List.take_succ_eq_append_getElem h1]
                  simp
                clear hz hc hzo hbw hbl'
                generalize hcc : (G.roots ++ (G.nodes.take i).flatMap Nd.out ++ x.out.take k).count z = c at hlk hcl hwf
                have HC := Lib.hid hcc
                clear hcc k0 k1
                go_wp2_with (at_mapUpdate; refine wpList_mapUpdate_in _ rfl _ _ _ 43 rfl 3 3 Try.lawIntG Try.underlying43 _ t (n + k) D rfl hT.out.own hjm _ _ _ rfl rfl hkey _ [] (plainElem_int Try.underlying3 hwf) ?_; intro w3 hown3 hturn3; have T3 : Aside (Tm w3 t (n + k + 1) _ _) := hT.out.put z (by rw [HC.out]) hown3; have B3 : Aside (Below w1.heap.size w1 w3) := hF.out.grown hturn3.grown hF.out.size (fun g hg => by simp only [Option.some.injEq] at hg; omega); clear hown3 hturn3 d1 hlk)
                go_roundg gi
                case measure => omega
                case rel => exact ⟨k + 1, _, by omega, by go_num, by show Tm _ _ _ _ _; rw [HX.out, ← Nat.add_assoc]; exact T3.out, B3.out⟩
          | zero =>
            have : i = G.nodes.length := by omega
            subst this
            have HT2 : Aside (Tm wr t n (allP G) D) := by
              have := hT.out
              rw [List.take_length] at this
              exact this
            have cI := pids_any G wr _ (HG0.out.below (KP.out _ hF.out).2.2.2) hn
            clear hT hnn hbw
            go_wp2_with fail
            refine cI.mono ?_
            rintro e w4 ⟨u, rfl, hu, hb4⟩
            have HU4 := Lib.hid hu
            have HB4 : Aside (Below w1.heap.size w1 w4) := below_more hF.out hb4
            have HT4 : Aside (Tm w4 t n (allP G) D) := HT2.out.below hb4
            obtain ⟨uA, uc, rfl, hug⟩ : ∃ uA uc, u = .slice uA G.nodes.length uc ∧ (0 < G.nodes.length → ∃ pg, uA = some ⟨pg, 0, none⟩) := by
              rcases hu.2 with ⟨rfl, h0⟩ | ⟨pg, c, cur, rfl, _⟩
              · rw [ids_length] at h0
                exact ⟨none, 0, by rw [h0], fun h => by omega⟩
              · exact ⟨_, c, by rw [ids_length], fun _ => ⟨pg, rfl⟩⟩
            have HU : Aside (w4.ownsRow w1.heap.size 3 1 (.slice uA G.nodes.length uc) G.nodes.length (vals ((countsL G).take 0 ++ (ids G).drop 0))) := by
              have := row_low HU4.out hF.out.size
              rw [ids_length] at this
              show World.ownsRow _ _ _ _ _ _ _
              simpa using this
            have HUG := Lib.hid hug
            clear cI HT2 hF hu hb4 k0 k1 hug HU4 hnl
            go_wp2_with fail
            go_loopg [53] G.nodes.length (fun g s53 wx => ∃ (j : Nat), j + g = G.nodes.length ∧ s53 = .int .i64 j ∧ Aside (wx.ownsRow w1.heap.size 3 1 (.slice uA G.nodes.length uc) G.nodes.length (vals ((countsL G).take j ++ (ids G).drop j))) ∧ Aside (Tm wx t n (allP G) D) ∧ Aside (Below w1.heap.size w1 wx))
            case atStart => exact ⟨0, by omega, rfl, HU.out, HT4.out, HB4.out⟩
            case round =>
              obtain ⟨j, hj, rfl, hU, hT, hF⟩ := hrel
              clear HU HT4 HB4
              cases gk with
              | zero =>
                have : j = G.nodes.length := by omega
                subst this
                have HZ : Aside (wr.ownsRow w.heap.size 3 1 (.slice uA G.nodes.length uc) (countsA G).length (vals (countsA G))) := by
                  have h1 := row_low hU.out HW1.out.size
                  have hl : (countsL G).length = G.nodes.length := by unfold countsL; rw [List.length_map, ids_length]
                  rw [List.take_of_length_le (by omega), List.drop_of_length_le (by rw [ids_length]; exact Nat.le_refl _), List.append_nil] at h1
                  show World.ownsRow _ _ _ _ _ _ _
                  rw [HA.out, hl]
                  exact h1
                have HBW : Aside (Below w.heap.size w wr) := below_more HW1.out hF.out
                clear hU hT hF
                go_wp2_with fail
                go_ret
                exact ⟨_, rfl, HZ.out, HBW.out⟩
              | succ g =>
                obtain ⟨pg, rfl⟩ := HUG.out (by omega)
                obtain ⟨x, hx⟩ : ∃ x, G.nodes[j]? = some x := ⟨_, List.getElem?_eq_getElem (by omega)⟩
                have hlt : (j : Int) < G.nodes.length := by omega
                have hxi := ids_at hx
                have hxo := HI.out x.id (List.mem_of_getElem? hxi)
                have hlk := hT.out.look hxo
                have hcl : (countsL G).length = (ids G).length := by unfold countsL; rw [List.length_map]
                have c1 : wr.cell? ⟨pg, j, none⟩ = some (.int .i64 x.id) := by
                  rw [hU.out.cellAt j (by omega)]
                  refine vals_of _ _ _ ?_
                  have hjl := (List.getElem?_eq_some_iff.1 hxi).1
                  rw [List.getElem?_append_right (by simp; omega), List.getElem?_drop]
                  have : j + (j - ((countsL G).take j).length) = j := by simp; omega
                  rw [this]
                  exact hxi
                have f1 := hU.out.frozenAt j
                have hC : (countsL G)[j]? = some (((allP G).count x.id : Nat) : Int) := by
                  unfold countsL
                  rw [List.getElem?_map, hxi]; rfl
                obtain ⟨s1, s2⟩ := hU.out.stored j (.int .i64 ((allP G).count x.id : Nat))
                rw [vals_set, cells_set hcl hC] at s1
                obtain ⟨es, ck, hes, _⟩ := hT.out.own
                have hne : pg ≠ t := by
                  rintro rfl
                  rcases hU.out.2 with ⟨h0, _⟩ | ⟨g', c', cur, h0, _, hb, _⟩
                  · cases h0
                  · simp only [Value.slice.injEq, Option.some.injEq, Addr.mk.injEq, and_true, true_and] at h0
                    rw [← h0.1, hes] at hb
                    cases hb
                have hlo := (hU.out.lt pg rfl).1
                have S1 := Lib.hid s1
                have S2 : Aside (Tm (wr.setCell ⟨pg, j, none⟩ (.int .i64 ((allP G).count x.id : Nat))) t n (allP G) D) := hT.out.only (T := [pg]) (Only.of_grown s2 (by simp)) (by simpa using hne.symm)
                have S3 : Aside (Below w1.heap.size w1 (wr.setCell ⟨pg, j, none⟩ (.int .i64 ((allP G).count x.id : Nat)))) := hF.out.setCell hlo _
                clear s1 s2 hes hne hlo hC hcl hxo hxi hx hU hT hF
                generalize (allP G).count x.id = c at *
                go_wp2_with fail
                go_roundg g
                case measure => omega
                case rel => exact ⟨j + 1, by omega, by go_num, S1.out, S2.out, S3.out⟩
end Gr
end Go.Proofs.Ytngcncmpdlfbmaa
