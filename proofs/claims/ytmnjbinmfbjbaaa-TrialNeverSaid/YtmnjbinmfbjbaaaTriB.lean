/- The program's map of known nodes: nodes; whether there can be a trial. -/
import Derived.Test.YtmnjbinmfbjbaaaTriA
namespace Go.Proofs.Ytmnjbinmfbjbaaa
namespace Tr
open Go.RowKit Go.Maps Gr

theorem Try.zeroBoolT (w : World) : (zeroValue 4).run Try.prog w = .ok (.bool false) w := by kernel_rfl
theorem plain_bool_inv {H : Type} {P : Program} {e : TypeId} (he : P.underlying e = some .bool) {v : Value} {z : DataW H × List MemPlace} (h : plainElem P e v = some z) : ∃ b, v = .bool b ∧ z = (.lit (.bool b), []) := by
  unfold plainElem at h
  rw [he] at h
  cases v <;> simp at h
  exact ⟨_, rfl, h.symm⟩
/-- Block m is a map that tells of each whether S tells it. -/
structure Kn (wr : World) (m n : Nat) (S : Int → Bool) (D : DataW Unit) : Prop where
  own : wr.ownsMap Try.prog 3 (plainElem Try.prog 4) m n D
  val : ∀ z, D.atKey (Rt.ky z) (.lit (.bool false)) = .lit (.bool (S z))
section
variable {wr wr' : World} {m n : Nat} {S : Int → Bool} {D : DataW Unit}
theorem Kn.only {T : List Nat} (h : Kn wr m n S D) (ho : Only T wr wr') (hm : m ∉ T) : Kn wr' m n S D := ⟨map_only h.own ho hm, h.val⟩
theorem Kn.below (h : Kn wr m n S D) (hb : Below wr.heap.size wr wr') : Kn wr' m n S D := h.only (Only.of_below (S := []) hb) (by simp)
theorem Kn.look (h : Kn wr m n S D) {x : Int} (hx : i64ok x) : (Instr.lookup 49 (.map (some m)) (.int .i64 x) false).run Try.prog wr = .ok (.bool (S x)) wr := by
  obtain ⟨v, ps, hrun, hv⟩ := h.own.lookup Try.lawIntG Try.underlying49 (Try.zeroBoolT wr) (plainElem_bool Try.underlying4 false) (keyOf_int_mk Try.underlying3 (Rt.i64_wf hx))
  rw [show (Lit.int .i64 x) = Rt.ky x from rfl, h.val] at hv
  obtain ⟨b, rfl, hb⟩ := plain_bool_inv Try.underlying4 hv
  simp only [Prod.mk.injEq, DataW.lit.injEq, Lit.bool.injEq] at hb
  rw [hrun, ← hb.1]
theorem Kn.put (h : Kn wr m n S D) (x : Int) (hown : wr'.ownsMap Try.prog 3 (plainElem Try.prog 4) m (n + 1) (D.put (Rt.ky x) (.lit (.bool true)))) :
    Kn wr' m (n + 1) (fun z => S z || x == z) (D.put (Rt.ky x) (.lit (.bool true))) := by
  have hI := map_isMap h.own
  refine ⟨hown, fun z => ?_⟩
  by_cases e : x = z
  · subst e
    rw [atKey_put_same hI (ky_key _)]
    simp
  · rw [atKey_put_other (ky_ne (fun e' => e e'.symm)), h.val]
    simp [e]
end

set_option maxRecDepth 100000 in
set_option maxHeartbeats 1600000 in
theorem tnodes_any (G : Gp) (l : List Int) (w : World) (gv lv : Value) (hg : GrAt w gv G) (hl : Rd w lv l) (hn : G.nodes.length ≤ 1000) :
    Calls Try.prog 19 #[gv, lv] w fun e w' => e = .returned (.bool (withinB l (ids G))) ∧ Below w.heap.size w w' := by
  obtain ⟨A, cap, B, cb, rfl, h1, h2, h3⟩ := id hg
  obtain ⟨hlo, lA, lc, rfl, hl1, hl2, hl3⟩ := id hl
  obtain ⟨v0, q, hv0, hq, K, hb0, hs0⟩ := box_any w (.slice A G.nodes.length cap) (.slice B G.roots.length cb)
  have H3 := Lib.hid h3
  have HL := Lib.hid hl3
  have HLO := Lib.hid hlo
  have e0 := K.cell (i := 0) rfl
  have e1 := K.cell (i := 1) rfl
  have HB0 := Lib.hid hb0
  have hmm := @run_makeMap Try.prog
  obtain ⟨v2, hv2, F0⟩ : ∃ v2, v0.alloc (.map #[] 0) = v2 ∧ (Kn v2 (q + 1) 0 (fun _ => false) (.map []) ∧ Below v0.heap.size v0 v2 ∧ v2.heap.size = q + 2) := by
    refine ⟨_, rfl, ?_, (Below.refl _ v0).alloc (Nat.le_refl _) _, by simp [hs0]⟩
    rw [← hs0]
    exact ⟨World.ownsMap_made v0 _ _ _, fun z => rfl⟩
  have HF0 := Lib.hid F0
  have a0 := (F0.2.1.cell (p := ⟨q, 0, none⟩) (by show q < v0.heap.size; omega)).trans e0
  have a1 := (F0.2.1.cell (p := ⟨q, 1, none⟩) (by show q < v0.heap.size; omega)).trans e1
  clear h3 h2 K hb0 hg hl hl3 hlo F0
  go_enter Try.func19, Try.ntmps19
  go_wp2_with fail
  go_loopg [14] G.nodes.length (fun g s14 wr => ∃ (j : Nat) (D : DataW Unit), j + g = G.nodes.length ∧ s14 = .int .i64 j ∧ Aside (Kn wr (q + 1) j (Rt.hasB ((ids G).take j)) D) ∧ Aside (Below v0.heap.size v0 wr))
  case atStart => exact ⟨0, _, by omega, rfl, HF0.out.1, HF0.out.2.1⟩
  case round =>
    obtain ⟨j, D, hj, rfl, hL, HB⟩ := hrel
    have hbw : Below w.heap.size w wr := by rw [hq]; exact HB0.out.trans (HB.out.mono (by omega))
    cases gk with
    | zero =>
      have : j = G.nodes.length := by omega
      subst this
      have HBW := Lib.hid hbw
      have HK : Aside (Kn wr (q + 1) G.nodes.length (Rt.hasB (ids G)) D) := by
        have := hL.out
        rwa [List.take_of_length_le (by rw [ids_length]; exact Nat.le_refl _)] at this
      clear hbw hL HB
      go_wp2_with fail
      go_loopg [24] l.length (fun g s24 wx => ∃ (i : Nat), i + g = l.length ∧ s24 = .int .i64 i ∧ Aside (withinB (l.drop i) (ids G) = withinB l (ids G)) ∧ wr = wx)
      case atStart => exact ⟨0, by omega, rfl, rfl, rfl⟩
      case round =>
        obtain ⟨i, hi, rfl, hr, rfl⟩ := hrel
        cases gk with
        | zero =>
          have : i = l.length := by omega
          subst this
          have hr' := hr.out
          rw [List.drop_length] at hr'
          have HR := Lib.hid hr'
          clear hr' hr
          go_wp2_with fail
          go_ret
          exact ⟨ret_bool HR.out, HBW.out⟩
        | succ g =>
          obtain ⟨z, hz⟩ : ∃ z, l[i]? = some z := ⟨_, List.getElem?_eq_getElem (by omega)⟩
          obtain ⟨b, o, rfl, hbl, hc⟩ := HL.out i z hz
          have hc := (HBW.out.cell (p := ⟨b, _, none⟩) hbl).trans hc
          have hlt : (i : Int) < l.length := by omega
          have HR : Aside ((Rt.hasB (ids G) z && withinB (l.drop (i + 1)) (ids G)) = withinB l (ids G)) := by
            have := hr.out
            rw [Rt.drop_at hz] at this
            exact this
          have hlk := HK.out.look (HLO.out z (List.mem_of_getElem? hz))
          clear hr hz hbl
          cases hs : Rt.hasB (ids G) z
          · rw [hs] at hlk
            go_wp2_with fail
            go_ret
            exact ⟨ret_bool (by rw [← HR.out, hs]; rfl), HBW.out⟩
          · rw [hs] at hlk
            go_wp2_with fail
            go_roundg g
            case measure => omega
            case rel => exact ⟨i + 1, by omega, by go_num, by show _ = _; rw [← HR.out, hs]; rfl, rfl⟩
    | succ g =>
      obtain ⟨x, hx⟩ : ∃ x, G.nodes[j]? = some x := ⟨_, List.getElem?_eq_getElem (by omega)⟩
      obtain ⟨hxo, b, o, C, cc, rfl, hbl, c1, c2, hrd⟩ := H3.out j x hx
      have d1 := (hbw.cell (p := ⟨b, _, none⟩) hbl).trans c1
      have d2 := (hbw.cell (p := ⟨b, _, none⟩) hbl).trans c2
      have hlt : (j : Int) < G.nodes.length := by omega
      have hkey := keyOf_int_mk Try.underlying3 (Rt.i64_wf hxo)
      have HX : Aside (G.nodes[j]? = some x) := hx
      have hsz := HB.out.size
      clear hx c1 c2 hxo hbw hrd
      go_wp2_with (at_mapUpdate; refine wpList_mapUpdate_in _ rfl _ _ _ 49 rfl 3 4 Try.lawIntG Try.underlying49 _ (q + 1) j D rfl (hL.out.own.alloc _) (by unfold maxLen; omega) _ _ _ rfl rfl hkey _ [] (plainElem_bool Try.underlying4 true) ?_; intro w1 hown1 hturn1; have T1 : Aside (Kn w1 (q + 1) (j + 1) (fun z => Rt.hasB ((ids G).take j) z || x.id == z) (D.put (Rt.ky x.id) (.lit (.bool true)))) := hL.out.put x.id hown1; have B1 : Aside (Below v0.heap.size v0 w1) := (HB.out.alloc hsz _).grown hturn1.grown (by first | omega | (simp; omega)) (fun g hg => by simp only [Option.some.injEq] at hg; omega); clear hown1 hturn1 d1 d2)
      go_roundg g
      case measure => omega
      case rel =>
        refine ⟨j + 1, D.put (Rt.ky x.id) (.lit (.bool true)), by omega, by go_num, ?_, B1.out⟩
        have e : (fun z => Rt.hasB ((ids G).take j) z || x.id == z) = Rt.hasB ((ids G).take (j + 1)) := by
          funext z
          rw [take_ids HX.out]
          unfold Rt.hasB
          simp [List.any_append]
        have h := T1.out
        rw [e] at h
        exact h

set_option maxRecDepth 100000 in
set_option maxHeartbeats 1600000 in
theorem tright_any (G : Gp) (k c : List Int) (w : World) (gv kv cv : Value) (hg : GrAt w gv G) (hk : Rd w kv k) (hc : Rd w cv c) (hn : G.nodes.length ≤ 1000) :
    Calls Try.prog 22 #[gv, kv, cv] w fun e w' => e = .returned (.bool (trialB G k c)) ∧ Below w.heap.size w w' := by
  obtain ⟨A, cap, B, cb, rfl, h1, h2, h3⟩ := id hg
  obtain ⟨_, kA, kc, rfl, hk1, hk2, hk3⟩ := id hk
  obtain ⟨v0, q, hv0, hq, K, hb0, hs0⟩ := box_any w (.slice A G.nodes.length cap) (.slice B G.roots.length cb)
  have hw0 : Below w.heap.size w v0 := by rw [hq]; exact hb0
  have hg0 := hg.below hw0
  have HG0 := Lib.hid hg0
  have HC0 := Lib.hid (hc.below hw0)
  have HK3 := Lib.hid hk3
  have HW0 := Lib.hid hw0
  have e0 := K.cell (i := 0) rfl
  have e1 := K.cell (i := 1) rfl
  have HK := Lib.hid K
  have cR := pright_any G v0 _ hg0 hn
  have HB0 := Lib.hid hb0
  clear h3 h2 K hg hk hk3 hc hg0 hw0 hb0
  have hT : trialB G k c = (rightB G && decide (k.length = G.nodes.length) && nnB k && withinB c (ids G)) := rfl
  have HT := Lib.hid hT
  clear hT
  have hkl : k.length ≤ 9223372036854775807 := by omega
  go_enter Try.func22, Try.ntmps22
  cases hr : rightB G
  · rw [hr] at cR
    have HA : Aside (trialB G k c = false) := by show _ = _; rw [HT.out, hr]; simp
    clear hr
    go_wp2_with fail
    refine cR.mono ?_
    rintro e w1 ⟨rfl, hb1⟩
    have HB1 : Aside (Below v0.heap.size v0 w1) := hb1
    clear hb1 cR e0 e1
    go_wp2_with fail
    go_ret
    exact ⟨ret_bool HA.out.symm, by rw [hq]; exact HB0.out.trans (HB1.out.mono (by omega))⟩
  rw [hr] at cR
  have HR := Lib.hid hr
  clear hr
  by_cases hlen : k.length = G.nodes.length
  · go_wp2_with fail
    refine cR.mono ?_
    rintro e w1 ⟨rfl, hb1⟩
    have HB1 : Aside (Below v0.heap.size v0 w1) := hb1
    clear hb1 cR e0 e1
    have k0 := (HK.out.below HB1.out (by omega)).cell (i := 0) rfl
    have k1 := (HK.out.below HB1.out (by omega)).cell (i := 1) rfl
    have hleni : (k.length : Int) = G.nodes.length := by omega
    have hw1 : Below w.heap.size w w1 := by rw [hq]; exact HB0.out.trans (HB1.out.mono (by omega))
    have HW1 := Lib.hid hw1
    clear hw1
    go_wp2_with fail
    go_loopg [22] k.length (fun g s22 wx => ∃ (i : Nat), i + g = k.length ∧ s22 = .int .i64 i ∧ Aside (nnB (k.drop i) = nnB k) ∧ w1 = wx)
    case atStart => exact ⟨0, by omega, rfl, rfl, rfl⟩
    case round =>
      obtain ⟨i, hi, rfl, hr, rfl⟩ := hrel
      cases gk with
      | zero =>
        have : i = k.length := by omega
        subst this
        have HN : Aside (true = nnB k) := by
          have := hr.out
          rw [List.drop_length] at this
          exact this
        have HA : Aside (withinB c (ids G) = trialB G k c) := by
          show _ = _
          rw [HT.out, HR.out, ← HN.out, hlen]
          simp
        have cN := tnodes_any G c w1 _ _ (HG0.out.below HB1.out) (HC0.out.below HB1.out) hn
        clear hr
        go_wp2_with fail
        refine cN.mono ?_
        rintro e w2 ⟨rfl, hb2⟩
        have HB2 : Aside (Below w.heap.size w w2) := below_more HW1.out hb2
        clear hb2 cN
        go_wp2_with fail
        go_ret
        exact ⟨ret_bool HA.out, HB2.out⟩
      | succ g =>
        obtain ⟨z, hz⟩ : ∃ z, k[i]? = some z := ⟨_, List.getElem?_eq_getElem (by omega)⟩
        obtain ⟨b, o, rfl, hbl, hcc⟩ := HK3.out i z hz
        have hcc := (HW1.out.cell (p := ⟨b, _, none⟩) hbl).trans hcc
        have hlt : (i : Int) < k.length := by omega
        have HN : Aside ((decide (0 ≤ z) && nnB (k.drop (i + 1))) = nnB k) := by
          have := hr.out
          rw [Rt.drop_at hz] at this
          exact this
        clear hr hz hbl
        by_cases hz0 : z < 0
        · have HA : Aside (trialB G k c = false) := by
            show _ = _
            rw [HT.out, ← HN.out, decide_eq_false (by omega : ¬ 0 ≤ z)]
            simp
          go_wp2_with fail
          go_ret
          exact ⟨ret_bool HA.out.symm, HW1.out⟩
        · go_wp2_with fail
          go_roundg g
          case measure => omega
          case rel => exact ⟨i + 1, by omega, by go_num, by show _ = _; rw [← HN.out, decide_eq_true (by omega : 0 ≤ z)]; rfl, rfl⟩
  · have HA : Aside (trialB G k c = false) := by
      show _ = _
      rw [HT.out, decide_eq_false hlen]
      simp
    have hleni : ¬ (k.length : Int) = G.nodes.length := by omega
    go_wp2_with fail
    refine cR.mono ?_
    rintro e w1 ⟨rfl, hb1⟩
    have HB1 : Aside (Below v0.heap.size v0 w1) := hb1
    clear hb1 cR e0 e1
    have k0 := (HK.out.below HB1.out (by omega)).cell (i := 0) rfl
    have k1 := (HK.out.below HB1.out (by omega)).cell (i := 1) rfl
    go_wp2_with fail
    go_ret
    exact ⟨ret_bool HA.out.symm, by rw [hq]; exact HB0.out.trans (HB1.out.mono (by omega))⟩
end Tr
end Go.Proofs.Ytmnjbinmfbjbaaa
