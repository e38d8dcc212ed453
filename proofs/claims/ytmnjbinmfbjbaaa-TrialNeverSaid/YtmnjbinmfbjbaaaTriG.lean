/- The document's known, right, Gray. -/
import Derived.Test.YtmnjbinmfbjbaaaTriF
namespace Go.Proofs.Ytmnjbinmfbjbaaa
namespace Tr
open Go.RowKit Go.Maps Gr

set_option maxRecDepth 100000 in
set_option maxHeartbeats 1600000 in
theorem known_any (G : Gp) (c : List Int) (w : World) (gv cv : Value) (hg : GrAt w gv G) (hc : Rd w cv c) :
    Calls Try.prog 21 #[gv, cv] w fun e w' => e = .returned (.bool (withinB c (ids G))) ∧ Below w.heap.size w w' := by
  obtain ⟨A, cap, B, cb, rfl, h1, h2, h3⟩ := id hg
  obtain ⟨_, cA, cc, rfl, hc1, hc2, hc3⟩ := id hc
  obtain ⟨v0, q, hv0, hq, K, hb0, hs0⟩ := box_any w (.slice A G.nodes.length cap) (.slice B G.roots.length cb)
  have hw0 : Below w.heap.size w v0 := by rw [hq]; exact hb0
  have H3 := Lib.hid h3
  have HC3 := Lib.hid hc3
  have HW0 := Lib.hid hw0
  have HK := Lib.hid K
  have keep : ∀ wx : World, Below v0.heap.size v0 wx → wx.cell? ⟨q, 0, none⟩ = some (.slice A G.nodes.length cap) ∧ wx.cell? ⟨q, 1, none⟩ = some (.slice B G.roots.length cb) ∧ Below w.heap.size w wx := fun wx h =>
    ⟨(K.below h (by omega)).cell (i := 0) rfl, (K.below h (by omega)).cell (i := 1) rfl, below_more hw0 h⟩
  have KP := Lib.hid keep
  clear h3 h2 K hb0 hg hc hc3 hw0 keep
  go_enter Try.func21, Try.ntmps21
  go_wp2_with fail
  go_loopg [5] c.length (fun g s5 wx => ∃ (j : Nat), j + g = c.length ∧ s5 = .int .i64 j ∧ Aside (withinB (c.drop j) (ids G) = withinB c (ids G)) ∧ Aside (Below v0.heap.size v0 wx))
  case atStart => exact ⟨0, by omega, rfl, rfl, Below.refl _ _⟩
  case round =>
    obtain ⟨j, hj, rfl, hr, hF⟩ := hrel
    obtain ⟨k0, k1, hbw⟩ := KP.out _ hF.out
    cases gk with
    | zero =>
      have : j = c.length := by omega
      subst this
      have hr' := hr.out
      rw [List.drop_length] at hr'
      have HR := Lib.hid hr'
      have HBW := Lib.hid hbw
      clear hr' hr hbw
      go_wp2_with fail
      go_ret
      exact ⟨ret_bool HR.out, HBW.out⟩
    | succ g =>
      obtain ⟨z, hz⟩ : ∃ z, c[j]? = some z := ⟨_, List.getElem?_eq_getElem (by omega)⟩
      obtain ⟨b, o, rfl, hbl, hcz⟩ := HC3.out j z hz
      have HCZ : Aside (∀ wx, Below v0.heap.size v0 wx → wx.cell? ⟨b, o + j, none⟩ = some (.int .i64 z)) := fun wx h => ((KP.out wx h).2.2.cell (p := ⟨b, _, none⟩) hbl).trans hcz
      have hlt : (j : Int) < c.length := by omega
      have HR : Aside ((Rt.hasB (ids G) z && withinB (c.drop (j + 1)) (ids G)) = withinB c (ids G)) := by
        have := hr.out
        rw [Rt.drop_at hz] at this
        exact this
      clear hr hz hbl hcz hbw
      go_wp2_with fail
      clear k0 k1
      go_loopg [6, 7] G.nodes.length (fun gi s6 s7 wx => ∃ (i : Nat) (bb : Bool), i + gi = G.nodes.length ∧ s7 = .int .i64 i ∧ s6 = .bool bb ∧ Aside (bb = Rt.hasB ((ids G).take i) z) ∧ Aside (Below v0.heap.size v0 wx))
      case atStart => exact ⟨0, false, by omega, rfl, rfl, rfl, hF.out⟩
      case round =>
        obtain ⟨i, bb, hi, rfl, rfl, hbb, hF⟩ := hrel
        obtain ⟨k0, k1, hbw⟩ := KP.out _ hF.out
        cases gk with
        | zero =>
          have : i = G.nodes.length := by omega
          subst this
          have HBB : Aside (bb = Rt.hasB (ids G) z) := by
            have := hbb.out
            rwa [List.take_of_length_le (by rw [ids_length]; exact Nat.le_refl _)] at this
          have HBW := Lib.hid hbw
          clear hbb hbw
          cases bb
          · go_wp2_with fail
            go_ret
            exact ⟨ret_bool (by rw [← HR.out, ← HBB.out]; rfl), HBW.out⟩
          · go_wp2_with fail
            go_roundg g
            case measure => omega
            case rel => exact ⟨j + 1, by omega, by go_num, by show _ = _; rw [← HR.out, ← HBB.out]; rfl, hF.out⟩
        | succ gi =>
          obtain ⟨x, hx⟩ : ∃ x, G.nodes[i]? = some x := ⟨_, List.getElem?_eq_getElem (by omega)⟩
          obtain ⟨hxo, b', o', C, cc', rfl, hbl, c1, c2, _⟩ := H3.out i x hx
          have d1 := (hbw.cell (p := ⟨b', _, none⟩) hbl).trans c1
          have d2 := HCZ.out _ hF.out
          have hlt' : (i : Int) < G.nodes.length := by omega
          have HX : Aside (Rt.hasB ((ids G).take (i + 1)) z = (bb || x.id == z)) := by
            show _ = _
            rw [take_ids hx, hbb.out]
            unfold Rt.hasB
            simp [List.any_append]
          clear hx c1 c2 hxo hbw hbb hbl
          cases bb
          · by_cases he : x.id = z
            · go_wp2_with fail
              first | (go_quiet (fail)) | skip
              go_wp2_with fail
              go_roundg gi
              case measure => omega
              case rel => exact ⟨i + 1, true, by omega, by go_num, by simp, by show _ = _; rw [HX.out]; simp [he], by first | exact hF.out | exact below_drewN hF.out _⟩
            · go_wp2_with fail
              first | (go_quiet (fail)) | skip
              go_wp2_with fail
              go_roundg gi
              case measure => omega
              case rel => exact ⟨i + 1, false, by omega, by go_num, by simp [he], by show _ = _; rw [HX.out]; simp [he], by first | exact hF.out | exact below_drewN hF.out _⟩
          · go_wp2_with fail
            first | (go_quiet (fail)) | skip
            go_wp2_with fail
            go_roundg gi
            case measure => omega
            case rel => exact ⟨i + 1, true, by omega, by go_num, rfl, by show _ = _; rw [HX.out]; rfl, by first | exact hF.out | exact below_drewN hF.out _⟩

set_option maxRecDepth 100000 in
set_option maxHeartbeats 1600000 in
theorem rtright_any (G : Gp) (k c : List Int) (w : World) (gv kv cv : Value) (hg : GrAt w gv G) (hk : Rd w kv k) (hc : Rd w cv c) (hn : G.nodes.length ≤ 1000) :
    Calls Try.prog 24 #[gv, kv, cv] w fun e w' => e = .returned (.bool (trialB G k c)) ∧ Below w.heap.size w w' := by
  obtain ⟨A, cap, B, cb, rfl, h1, h2, h3⟩ := id hg
  obtain ⟨_, kA, kc, rfl, hk1, hk2, hk3⟩ := id hk
  obtain ⟨v0, q, hv0, hq, K, hb0, hs0⟩ := box_any w (.slice A G.nodes.length cap) (.slice B G.roots.length cb)
  have hw0 : Below w.heap.size w v0 := by rw [hq]; exact hb0
  have hg0 := hg.below hw0
  have HG0 := Lib.hid hg0
  have HC0 := Lib.hid (hc.below hw0)
  have HK3 := Lib.hid hk3
  have HW0 := Lib.hid hw0
  have keep : ∀ wx : World, Below v0.heap.size v0 wx → wx.cell? ⟨q, 0, none⟩ = some (.slice A G.nodes.length cap) ∧ wx.cell? ⟨q, 1, none⟩ = some (.slice B G.roots.length cb) ∧ Below w.heap.size w wx := fun wx h =>
    ⟨(K.below h (by omega)).cell (i := 0) rfl, (K.below h (by omega)).cell (i := 1) rfl, below_more hw0 h⟩
  have KP := Lib.hid keep
  obtain ⟨k0, k1, _⟩ := keep _ (Below.refl _ v0)
  have cR := rright_any G v0 _ hg0 (by omega)
  have hT : trialB G k c = (rightB G && decide (k.length = G.nodes.length) && nnB k && withinB c (ids G)) := rfl
  have HT := Lib.hid hT
  have hkl : k.length ≤ 9223372036854775807 := by omega
  clear h3 h2 K hb0 hg hk hk3 hc hg0 hw0 keep hT
  go_enter Try.func24, Try.ntmps24
  go_wp2_with fail
  refine cR.mono ?_
  rintro e w1 ⟨rfl, hb1⟩
  have HB1 : Aside (Below v0.heap.size v0 w1) := hb1
  clear hb1 cR k0 k1
  obtain ⟨k0, k1, _⟩ := KP.out _ HB1.out
  have cK := known_any G c w1 _ _ (HG0.out.below HB1.out) (HC0.out.below HB1.out)
  go_wp2_with fail
  refine cK.mono ?_
  rintro e w2 ⟨rfl, hb2⟩
  have HB2 : Aside (Below v0.heap.size v0 w2) := below_more HB1.out hb2
  clear hb2 cK k0 k1
  obtain ⟨k0, k1, hw2⟩ := KP.out _ HB2.out
  have HW2 := Lib.hid hw2
  clear hw2
  generalize rightB G = a1 at *
  generalize withinB c (ids G) = a2 at *
  cases a1
  · have HA : Aside (trialB G k c = false) := by show _ = _; rw [HT.out]; rfl
    cases a2 <;> (go_wp2_with fail; go_ret; exact ⟨ret_bool HA.out.symm, HW2.out⟩)
  cases a2
  · have HA : Aside (trialB G k c = false) := by show _ = _; rw [HT.out]; simp
    go_wp2_with fail
    go_ret
    exact ⟨ret_bool HA.out.symm, HW2.out⟩
  by_cases hlen : k.length = G.nodes.length
  · have hleni : (k.length : Int) = G.nodes.length := by omega
    have HLE := Lib.hid hlen
    clear hlen
    go_wp2_with fail
    go_loopg [9] k.length (fun g s9 wx => ∃ (i : Nat), i + g = k.length ∧ s9 = .int .i64 i ∧ Aside (nnB (k.drop i) = nnB k) ∧ w2 = wx)
    case atStart => exact ⟨0, by omega, rfl, rfl, rfl⟩
    case round =>
      obtain ⟨i, hi, rfl, hr, rfl⟩ := hrel
      cases gk with
      | zero =>
        have : i = k.length := by omega
        subst this
        have HN : Aside (true = nnB k) := by
          have := hr.out
          rw [List.drop_length] at this
          exact this
        have HA : Aside (true = trialB G k c) := by
          show _ = _
          rw [HT.out, ← HN.out, decide_eq_true HLE.out]
          rfl
        clear hr
        go_wp2_with fail
        go_ret
        exact ⟨ret_bool HA.out, HW2.out⟩
      | succ g =>
        obtain ⟨z, hz⟩ : ∃ z, k[i]? = some z := ⟨_, List.getElem?_eq_getElem (by omega)⟩
        obtain ⟨b, o, rfl, hbl, hcc⟩ := HK3.out i z hz
        have hcc := (HW2.out.cell (p := ⟨b, _, none⟩) hbl).trans hcc
        have hlt : (i : Int) < k.length := by omega
        have HN : Aside ((decide (0 ≤ z) && nnB (k.drop (i + 1))) = nnB k) := by
          have := hr.out
          rw [Rt.drop_at hz] at this
          exact this
        clear hr hz hbl
        by_cases hz0 : z < 0
        · have HA : Aside (trialB G k c = false) := by
            show _ = _
            rw [HT.out, ← HN.out, decide_eq_false (by omega : ¬ 0 ≤ z)]
            simp
          go_wp2_with fail
          go_ret
          exact ⟨ret_bool HA.out.symm, HW2.out⟩
        · go_wp2_with fail
          go_roundg g
          case measure => omega
          case rel => exact ⟨i + 1, by omega, by go_num, by show _ = _; rw [← HN.out, decide_eq_true (by omega : 0 ≤ z)]; rfl, rfl⟩
  · have HA : Aside (trialB G k c = false) := by
      show _ = _
      rw [HT.out, decide_eq_false hlen]
      rfl
    have hleni : ¬ (k.length : Int) = G.nodes.length := by omega
    go_wp2_with fail
    go_ret
    exact ⟨ret_bool HA.out.symm, HW2.out⟩

set_option maxRecDepth 100000 in
set_option maxHeartbeats 800000 in
theorem rgray_any (G : Gp) (c : List Int) (w : World) (gv cv : Value) (hg : GrAt w gv G) (hc : Rd w cv c) (hn : G.nodes.length ≤ 1000) :
    Calls Try.prog 9 #[gv, cv] w fun e w' => ∃ u, e = .returned u ∧ w'.ownsRow w.heap.size 3 1 u (grayA G c).length (vals (grayA G c)) ∧ Below w.heap.size w w' := by
  obtain ⟨A, cap, B, cb, rfl, h1, h2, h3⟩ := id hg
  obtain ⟨v0, q, hv0, hq, K, hb0, hs0⟩ := box_any w (.slice A G.nodes.length cap) (.slice B G.roots.length cb)
  have hw0 : Below w.heap.size w v0 := by rw [hq]; exact hb0
  have hg0 := hg.below hw0
  have HG0 := Lib.hid hg0
  have HC0 := Lib.hid (hc.below hw0)
  have HW0 := Lib.hid hw0
  have keep : ∀ wx : World, Below v0.heap.size v0 wx → wx.cell? ⟨q, 0, none⟩ = some (.slice A G.nodes.length cap) ∧ wx.cell? ⟨q, 1, none⟩ = some (.slice B G.roots.length cb) ∧ Below w.heap.size w wx := fun wx h =>
    ⟨(K.below h (by omega)).cell (i := 0) rfl, (K.below h (by omega)).cell (i := 1) rfl, below_more hw0 h⟩
  have KP := Lib.hid keep
  obtain ⟨k0, k1, _⟩ := keep _ (Below.refl _ v0)
  have cR := rright_any G v0 _ hg0 (by omega)
  have hT : grayA G c = if withinB c (ids G) then (if rightB G then reachL G c else []) else [] := rfl
  have HT := Lib.hid hT
  have hRA : reachA G c = if rightB G then reachL G c else [] := rfl
  have HRA := Lib.hid hRA
  clear h3 h2 K hb0 hg hc hg0 hw0 keep hT hRA
  go_enter Try.func9, Try.ntmps9
  go_wp2_with fail
  refine cR.mono ?_
  rintro e w1 ⟨rfl, hb1⟩
  have HB1 : Aside (Below v0.heap.size v0 w1) := hb1
  clear hb1 cR k0 k1
  obtain ⟨k0, k1, _⟩ := KP.out _ HB1.out
  have cK := known_any G c w1 _ _ (HG0.out.below HB1.out) (HC0.out.below HB1.out)
  go_wp2_with fail
  refine cK.mono ?_
  rintro e w2 ⟨rfl, hb2⟩
  have HB2 : Aside (Below v0.heap.size v0 w2) := below_more HB1.out hb2
  clear hb2 cK k0 k1
  obtain ⟨k0, k1, hw2⟩ := KP.out _ HB2.out
  have HW2 := Lib.hid hw2
  clear hw2
  have cR := rreach_any G c w2 _ _ (HG0.out.below HB2.out) (HC0.out.below HB2.out) hn
  generalize rightB G = a1 at *
  generalize withinB c (ids G) = a2 at *
  cases a1
  · have HA : Aside (grayA G c = []) := by show _ = _; rw [HT.out]; simp
    clear cR
    cases a2 <;> (go_wp2_with fail; go_ret; exact ⟨_, rfl, by rw [HA.out]; exact World.ownsRow_nil _ _ _ _, HW2.out⟩)
  cases a2
  · have HA : Aside (grayA G c = []) := by show _ = _; rw [HT.out]; rfl
    clear cR
    go_wp2_with fail
    go_ret
    exact ⟨_, rfl, by rw [HA.out]; exact World.ownsRow_nil _ _ _ _, HW2.out⟩
  have HA : Aside (grayA G c = reachA G c) := by show _ = _; rw [HT.out, HRA.out]; rfl
  go_wp2_with fail
  refine cR.mono ?_
  rintro e w3 ⟨u, rfl, hu, hb3⟩
  have HU := Lib.hid hu
  have HB3 : Aside (Below w.heap.size w w3) := below_more HW2.out hb3
  clear hu hb3 cR k0 k1
  go_wp2_with fail
  go_ret
  exact ⟨u, rfl, by rw [HA.out]; exact row_low HU.out HW2.out.size, HB3.out⟩
end Tr
end Go.Proofs.Ytmnjbinmfbjbaaa
