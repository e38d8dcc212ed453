/- The program's White. -/
import Derived.Test.YtmnjbinmfbjbaaaTriE
import Derived.Test.YtmnjbinmfbjbaaaShelf
namespace Go.Proofs.Ytmnjbinmfbjbaaa
namespace Tr
open Go.RowKit Go.Maps Gr

theorem contains_hasB (L : List Int) (x : Int) : L.contains x = Rt.hasB L x := by
  unfold Rt.hasB
  rw [Bool.eq_iff_iff]
  simp
/-- slices.BinarySearch, over ints that rise. -/
theorem bs_any (L : List Int) (x : Int) (w : World) (u : Value) (hu : Rd w u L) (hs : L.Pairwise (· < ·)) (hl : L.length ≤ 1000) :
    Calls Try.prog 26 #[u, .int .i64 x] w fun e w' => ∃ p, e = .returned (.tuple #[.int .i64 p, .bool (Rt.hasB L x)]) ∧ ∃ n, w.drewN n = w' := by
  obtain ⟨_, A, cap, rfl, h1, h2, h3⟩ := hu
  cases L with
  | nil =>
    refine (Try.slices_BinarySearch_int_empty A cap x w).mono fun e w' ⟨he, hw⟩ => ⟨0, ?_, 0, ?_⟩
    · exact he
    · exact hw.symm
  | cons y r =>
    obtain ⟨b, o, rfl, _, _⟩ := h3 0 y rfl
    have hc : ∀ j, j < (y :: r).length → w.cell? ⟨b, o + j, none⟩ = some (.int .i64 ((y :: r).getD j 0)) := fun j hj => by
      obtain ⟨b', o', e, _, hc⟩ := h3 j ((y :: r)[j]) (List.getElem?_eq_getElem hj)
      simp only [Option.some.injEq, Addr.mk.injEq, and_true] at e
      obtain ⟨rfl, rfl⟩ := e
      rw [hc]
      simp [List.getD, List.getElem?_eq_getElem hj]
    have h := Try.slices_BinarySearch_int b o (y :: r).length cap (y :: r) x w (Nat.le_refl _) (by omega) hc (by rw [List.take_length]; exact hs.imp (fun h => by omega))
    rw [List.take_length, contains_hasB] at h
    exact h.mono fun e w' ⟨he, n, hn⟩ => ⟨_, he, n, hn.symm⟩
theorem filter_snoc {l : List Int} {j : Nat} {z : Int} (p : Int → Bool) (h : l[j]? = some z) : (l.take (j + 1)).filter p = (l.take j).filter p ++ if p z then [z] else [] := by
  rw [take_snoc h, List.filter_append]
  cases hp : p z <;> simp [hp]
theorem below_dN {B : Nat} {a w : World} (h : Below B a w) (n : Nat) : Below B a (w.drewN n) := ⟨h.os, h.tape, h.output, h.size, h.block⟩
theorem row_drewN {w : World} {B n : Nat} {e : TypeId} {s : Nat} {v : Value} {xs : List Value} (h : w.ownsRow B e s v n xs) (m : Nat) : (w.drewN m).ownsRow B e s v n xs := h

set_option maxRecDepth 100000 in
set_option maxHeartbeats 3200000 in
theorem pwhite_any (G : Gp) (k c : List Int) (w : World) (gv kv cv : Value) (hg : GrAt w gv G) (hk : Rd w kv k) (hc : Rd w cv c) (hn : G.nodes.length ≤ 1000) :
    Calls Try.prog 12 #[gv, kv, cv] w fun e w' => ∃ u, e = .returned (.tuple #[u, .int .i64 (whiteE G k c)]) ∧ w'.ownsRow w.heap.size 3 1 u (whiteA G k c).length (vals (whiteA G k c)) ∧ Below w.heap.size w w' := by
  have hio := hg.ids_ok
  obtain ⟨A, cap, B, cb, rfl, h1, h2, h3⟩ := id hg
  obtain ⟨v0, q, hv0, hq, K, hb0, hs0⟩ := box_any w (.slice A G.nodes.length cap) (.slice B G.roots.length cb)
  have hw0 : Below w.heap.size w v0 := by rw [hq]; exact hb0
  have hg0 := hg.below hw0
  have HG0 := Lib.hid hg0
  have HC0 := Lib.hid (hc.below hw0)
  have HK0 := Lib.hid (hk.below hw0)
  have HW0 := Lib.hid hw0
  have HI := Lib.hid hio
  have e0 := K.cell (i := 0) rfl
  have e1 := K.cell (i := 1) rfl
  have HK := Lib.hid K
  have HB0 := Lib.hid hb0
  have cT := tright_any G k c v0 _ _ _ hg0 (hk.below hw0) (hc.below hw0) hn
  clear h3 h2 K hg hk hc hg0 hw0 hb0 hio
  go_enter Try.func12, Try.ntmps12
  cases ht : trialB G k c
  · rw [ht] at cT
    have HA : Aside (whiteA G k c = [] ∧ whiteE G k c = 1) := ⟨by simp [whiteA, ht], by simp [whiteE, ht]⟩
    clear ht
    go_wp2_with fail
    refine cT.mono ?_
    rintro e w1 ⟨rfl, hb1⟩
    have HB1 : Aside (Below v0.heap.size v0 w1) := hb1
    clear hb1 cT e0 e1
    go_wp2_with fail
    go_ret2
    exact ⟨_, by rw [HA.out.2]; rfl, by rw [HA.out.1]; exact World.ownsRow_nil _ _ _ _, by rw [hq]; exact HB0.out.trans (HB1.out.mono (by omega))⟩
  · rw [ht] at cT
    have HA : Aside (whiteA G k c = whiteL G k (reachL G c) ∧ whiteE G k c = 0) := ⟨by simp [whiteA, ht], by simp [whiteE, ht]⟩
    obtain ⟨t1, t2, _, _⟩ := trialB_facts ht
    have HRi := Lib.hid (rightB_ri t1)
    have HRA : Aside (∀ c, reachA G c = reachL G c) := fun c => reachA_right t1
    have HT2 := Lib.hid t2
    clear ht t1 t2
    go_wp2_with fail
    refine cT.mono ?_
    rintro e w1 ⟨rfl, hb1⟩
    have HB1 : Aside (Below v0.heap.size v0 w1) := hb1
    clear hb1 cT e0 e1
    have k0 := (HK.out.below HB1.out (by omega)).cell (i := 0) rfl
    have k1 := (HK.out.below HB1.out (by omega)).cell (i := 1) rfl
    have cR := preach_any G c w1 _ _ (HG0.out.below HB1.out) (HC0.out.below HB1.out) hn
    rw [HRA.out] at cR
    go_wp2_with fail
    refine cR.mono ?_
    rintro e w2 ⟨u, rfl, hu, hb2⟩
    have HB2 : Aside (Below v0.heap.size v0 w2) := below_more HB1.out hb2
    obtain ⟨yl, hyl⟩ : ∃ L, reachL G c = L := ⟨_, rfl⟩
    have hrd : Rd w2 u (reachL G c) := Rd.row hu (reach_ok HI.out)
    have hlen := reach_len (G := G) c
    obtain ⟨uA, uc, rfl⟩ : ∃ uA uc, u = .slice uA (reachL G c).length uc := by
      obtain ⟨_, uA, uc, e, _⟩ := id hrd
      exact ⟨uA, uc, e⟩
    have HCL := Lib.hid (reach_closed HRi.out c)
    have cS := trests_any G k (reachL G c) w2 _ _ _ (HG0.out.below HB2.out) (HK0.out.below HB2.out) hrd (by omega) HT2.out HCL.out
    rw [hyl] at cS hrd hlen
    rw [hyl]
    have HYL := Lib.hid hyl
    have HRD := Lib.hid hrd
    clear hu hb2 cR k0 k1 hrd hyl
    have k0 := (HK.out.below HB2.out (by omega)).cell (i := 0) rfl
    have k1 := (HK.out.below HB2.out (by omega)).cell (i := 1) rfl
    go_wp2_with fail
    refine cS.mono ?_
    rintro e w3 ⟨ce, t, D, rfl, hB, hM, hb3⟩
    have HC : Aside (Cl w3 ce t yl (restX G k yl) D) := ⟨hB, hM⟩
    have HB3 : Aside (Below v0.heap.size v0 w3) := below_more HB2.out hb3
    have HD3 : Aside (Below w2.heap.size w2 w3) := hb3
    clear cS hB hM hb3 k0 k1
    go_wp2_with fail
    go_loopg [10, 33] yl.length (fun g s10 s33 wx => ∃ (j : Nat) (L : List Int), j + g = yl.length ∧ s33 = .int .i64 j ∧ Aside (L = (yl.take j).filter (fun z => decide (0 < restV G k yl z))) ∧ L.length ≤ j ∧ Aside (wx.ownsRow w3.heap.size 3 1 s10 L.length (vals L)) ∧ Aside (Below w3.heap.size w3 wx))
    case atStart => exact ⟨0, [], by omega, rfl, rfl, by simp, World.ownsRow_nil _ _ _ _, Below.refl _ _⟩
    case round =>
      obtain ⟨j, L, hj, rfl, hL, hLl, ho, hF⟩ := hrel
      cases gk with
      | succ g =>
        obtain ⟨z, hz⟩ : ∃ z, yl[j]? = some z := ⟨_, List.getElem?_eq_getElem (by omega)⟩
        obtain ⟨hyo, _, _, e, _, _, hy3⟩ := HRD.out
        simp only [Value.slice.injEq, true_and] at e
        obtain ⟨rfl, rfl⟩ := e
        obtain ⟨b, o, rfl, hbl, hc⟩ := hy3 j z hz
        have d1 := ((below_more HD3.out hF.out).cell (p := ⟨b, _, none⟩) hbl).trans hc
        have hlt : (j : Int) < yl.length := by omega
        have hcl := (HC.out.below hF.out).call (hyo z (List.mem_of_getElem? hz)) (Rt.hasB_iff.2 (List.mem_of_getElem? hz))
        obtain ⟨a, ha⟩ : ∃ a, wrap64 (restX G k yl z) = a := ⟨_, rfl⟩
        rw [ha] at hcl
        have HT : Aside ((yl.take (j + 1)).filter (fun z => decide (0 < restV G k yl z)) = L ++ if decide (0 < a) then [z] else []) := by
          show _ = _
          rw [filter_snoc _ hz, hL.out, ← ha]
          rfl
        have hsz := hF.out.size
        clear hz hc hy3 hyo hbl ha hL
        by_cases ha0 : 0 < a
        · go_wp2_with (first
            | (go_at_call 32; refine hcl.mono ?_; rintro e w5 ⟨rfl, rfl⟩)
            | (at_builtin; refine wpList_append_i _ rfl _ _ rfl w3.heap.size _ L rfl (ho.out.alloc _) _ 1 z rfl (one_int_at _ _) (by omega) (by first | omega | (simp; omega)) ?_; intro v1 w6 hown1 hb1; have O1 : Aside (w6.ownsRow w3.heap.size 3 1 v1 (L ++ [z]).length (vals (L ++ [z]))) := hown1; have B1 : Aside (Below w3.heap.size w3 w6) := (hF.out.alloc hsz _).trans hb1; clear hown1 hb1 d1 hcl))
          go_roundg g
          case measure => omega
          case rel => exact ⟨j + 1, L ++ [z], by omega, by go_num, by show _ = _; rw [HT.out]; simp [ha0], by simp; omega, O1.out, B1.out⟩
        · go_wp2_with (go_at_call 32; refine hcl.mono ?_; rintro e w5 ⟨rfl, rfl⟩)
          go_roundg g
          case measure => omega
          case rel => exact ⟨j + 1, L, by omega, by go_num, by show _ = _; rw [HT.out]; simp [ha0], by omega, ho.out, hF.out⟩
      | zero =>
        have : j = yl.length := by omega
        subst this
        have HLL : Aside (L = heldL G k yl) := by
          show _ = _
          rw [hL.out, List.take_length]
          rfl
        have HB4 : Aside (Below v0.heap.size v0 wr) := below_more HB3.out hF.out
        have HD4 : Aside (Below w2.heap.size w2 wr) := below_more HD3.out hF.out
        have k0 := (HK.out.below HB4.out (by omega)).cell (i := 0) rfl
        have k1 := (HK.out.below HB4.out (by omega)).cell (i := 1) rfl
        have hLo : ∀ z ∈ L, i64ok z := fun z hz => by
          rw [HLL.out] at hz
          exact HRD.out.1 z (List.mem_filter.1 hz).1
        have cR := preach_any G L wr _ _ (HG0.out.below HB4.out) (Rd.row ho.out hLo) hn
        rw [HRA.out] at cR
        clear hLo hL ho hF
        go_wp2_with fail
        refine cR.mono ?_
        rintro e w7 ⟨ub, rfl, hub, hb7⟩
        have HB7 : Aside (Below v0.heap.size v0 w7) := below_more HB4.out hb7
        have HD7 : Aside (Below w2.heap.size w2 w7) := below_more HD4.out hb7
        have hbs : ∀ (x : Int) (wx : World), Below w7.heap.size w7 wx → Calls Try.prog 26 #[ub, .int .i64 x] wx fun e w' => ∃ p, e = .returned (.tuple #[.int .i64 p, .bool (Rt.hasB (reachL G L) x)]) ∧ ∃ n, wx.drewN n = w' := fun x wx hx =>
          bs_any (reachL G L) x wx ub ((Rd.row hub (reach_ok HI.out)).below hx) (reach_inc HRi.out L) (by have := reach_len (G := G) L; omega)
        have HBS := Lib.hid hbs
        clear hub hb7 cR k0 k1 hbs
        go_wp2_with fail
        go_loopg [14, 51] yl.length (fun g s14 s51 wx => ∃ (j : Nat) (M : List Int), j + g = yl.length ∧ s51 = .int .i64 j ∧ Aside (M = (yl.take j).filter (fun z => !Rt.hasB (reachL G L) z)) ∧ M.length ≤ j ∧ Aside (wx.ownsRow w7.heap.size 3 1 s14 M.length (vals M)) ∧ Aside (Below w7.heap.size w7 wx))
        case atStart => exact ⟨0, [], by omega, rfl, rfl, by simp, World.ownsRow_nil _ _ _ _, Below.refl _ _⟩
        case round =>
          obtain ⟨j, M, hj, rfl, hM, hMl, ho, hF⟩ := hrel
          cases gk with
          | zero =>
            have : j = yl.length := by omega
            subst this
            have HMM : Aside (M = whiteA G k c) := by
              show _ = _
              rw [HA.out.1, HYL.out, hM.out, List.take_length, HLL.out]
              rfl
            have hlow : w.heap.size ≤ w7.heap.size := by have := (below_more HW0.out HB7.out).size; omega
            have HBZ : Aside (Below w.heap.size w wr) := below_more (below_more HW0.out HB7.out) hF.out
            have HE := Lib.hid HA.out.2
            clear hM hF
            go_wp2_with fail
            go_ret2
            exact ⟨_, by rw [HE.out]; rfl, by rw [← HMM.out]; exact row_low ho.out hlow, HBZ.out⟩
          | succ g =>
            obtain ⟨z, hz⟩ : ∃ z, yl[j]? = some z := ⟨_, List.getElem?_eq_getElem (by omega)⟩
            obtain ⟨hyo, _, _, e, _, _, hy3⟩ := HRD.out
            simp only [Value.slice.injEq, true_and] at e
            obtain ⟨rfl, rfl⟩ := e
            obtain ⟨b, o, rfl, hbl, hc⟩ := hy3 j z hz
            have d1 := ((below_more HD7.out hF.out).cell (p := ⟨b, _, none⟩) hbl).trans hc
            have hlt : (j : Int) < yl.length := by omega
            have hcl := HBS.out z wr hF.out
            have HT : Aside ((yl.take (j + 1)).filter (fun z => !Rt.hasB (reachL G L) z) = M ++ if !Rt.hasB (reachL G L) z then [z] else []) := by
              show _ = _
              rw [filter_snoc _ hz, hM.out]
            have hsz := hF.out.size
            clear hz hc hy3 hyo hbl hM
            generalize Rt.hasB (reachL G L) z = hv at *
            cases hv
            · go_wp2_with (first
                | (go_at_call 26; refine hcl.mono ?_; rintro e w5 ⟨p, rfl, nd, rfl⟩)
                | (at_builtin; refine wpList_append_i _ rfl _ _ rfl w7.heap.size _ M rfl ((row_drewN ho.out nd).alloc _) _ 1 z rfl (one_int_at _ _) (by omega) (by first | omega | (simp; omega)) ?_; intro v1 w6 hown1 hb1; have O1 : Aside (w6.ownsRow w7.heap.size 3 1 v1 (M ++ [z]).length (vals (M ++ [z]))) := hown1; have B1 : Aside (Below w7.heap.size w7 w6) := ((below_dN hF.out nd).alloc hsz _).trans hb1; clear hown1 hb1 d1 hcl))
              go_roundg g
              case measure => omega
              case rel => exact ⟨j + 1, M ++ [z], by omega, by go_num, by show _ = _; rw [HT.out]; simp, by simp; omega, O1.out, B1.out⟩
            · go_wp2_with (go_at_call 26; refine hcl.mono ?_; rintro e w5 ⟨p, rfl, nd, rfl⟩)
              go_roundg g
              case measure => omega
              case rel => exact ⟨j + 1, M, by omega, by go_num, by show _ = _; rw [HT.out]; simp, by omega, row_drewN ho.out nd, below_dN hF.out nd⟩
end Tr
end Go.Proofs.Ytmnjbinmfbjbaaa
