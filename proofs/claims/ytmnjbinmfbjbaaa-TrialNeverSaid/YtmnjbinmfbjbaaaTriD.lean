/- The program's rests: the walk. -/
import Derived.Test.YtmnjbinmfbjbaaaTriC
namespace Go.Proofs.Ytmnjbinmfbjbaaa
namespace Tr
open Go.RowKit Go.Maps Gr

theorem hasB_take {gray : List Int} {j : Nat} {z : Int} (h : gray[j]? = some z) : gray.take (j + 1) = gray.take j ++ [z] := take_snoc h

/-- The map of gray ones at q + 1, the variable that holds it at q + 2. -/
structure Rs (v0 wx : World) (q : Nat) (gray : List Int) (f : Int → Int) (D : DataW Unit) : Prop where
  map : Rm wx (q + 1) gray f D
  blk : Blk wx (q + 2) 53 [.map (some (q + 1))]
  below : Below v0.heap.size v0 wx
section
variable {v0 wx wy : World} {q : Nat} {gray : List Int} {f f' : Int → Int} {D : DataW Unit}
theorem Rs.more (h : Rs v0 wx q gray f D) (hb : Below wx.heap.size wx wy) : Rs v0 wy q gray f D := ⟨h.map.below hb, h.blk.below hb h.blk.lt, below_more h.below hb⟩
theorem Rs.alloc (h : Rs v0 wx q gray f D) (o : Obj) : Rs v0 (wx.alloc o) q gray f D := h.more ((Below.refl _ wx).alloc (Nat.le_refl _) o)
theorem Rs.drew (h : Rs v0 wx q gray f D) : Rs v0 wx.drew q gray f D := h.more (below_drew wx)
theorem Rs.same (h : Rs v0 wx q gray f D) (hf : ∀ z, Rt.hasB gray z = true → f z = f' z) : Rs v0 wx q gray f' D := ⟨h.map.same hf, h.blk, h.below⟩
theorem Rs.turn (h : Rs v0 wx q gray f D) (hs : v0.heap.size = q + 1) (ht : wx.mapTurned wy (q + 1)) : Blk wy (q + 2) 53 [.map (some (q + 1))] ∧ Below v0.heap.size v0 wy :=
  ⟨h.blk.only (Only.of_grown (S := [q + 1]) ht.grown (by simp)) (by simp), h.below.grown ht.grown h.below.size (fun g hg => by simp only [Option.some.injEq] at hg; omega)⟩
theorem Rs.put (h : Rs v0 wx q gray f D) (hs : v0.heap.size = q + 1) {x v : Int} (hg : Rt.hasB gray x = true) (hv : v = wrap64 (f' x)) (hf : ∀ z, x ≠ z → Rt.hasB gray z = true → f z = f' z)
    (hown : wy.ownsMap Try.prog 3 (plainElem Try.prog 3) (q + 1) (Maps.size D + 1) (D.put (Rt.ky x) (.lit (.int .i64 v)))) (ht : wx.mapTurned wy (q + 1)) : Rs v0 wy q gray f' (D.put (Rt.ky x) (.lit (.int .i64 v))) :=
  ⟨h.map.put hg hv hf hown, (h.turn hs ht).1, (h.turn hs ht).2⟩
theorem Rs.push (h : Rs v0 wx q gray f D) (hs : v0.heap.size = q + 1) {x : Int} (hf : ∀ z, f z = 0)
    (hown : wy.ownsMap Try.prog 3 (plainElem Try.prog 3) (q + 1) (Maps.size D + 1) (D.put (Rt.ky x) (.lit (.int .i64 0)))) (ht : wx.mapTurned wy (q + 1)) : Rs v0 wy q (gray ++ [x]) f (D.put (Rt.ky x) (.lit (.int .i64 0))) :=
  ⟨h.map.push hf hown, (h.turn hs ht).1, (h.turn hs ht).2⟩
end

set_option maxRecDepth 100000 in
set_option maxHeartbeats 3200000 in
theorem trests_any (G : Gp) (k gray : List Int) (w : World) (gv kv yv : Value) (hg : GrAt w gv G) (hk : Rd w kv k) (hy : Rd w yv gray) (hyl : gray.length ≤ 1000) (hkl : k.length = G.nodes.length)
    (hcl : ∀ n ∈ G.nodes, Rt.hasB gray n.id = true → ∀ o ∈ n.out, Rt.hasB gray o = true) :
    Calls Try.prog 23 #[gv, kv, yv] w fun e w' => ∃ cb t D, e = .returned (.func (.func 32) #[] #[.pointer (some ⟨cb, 0, none⟩)]) ∧ Blk w' cb 53 [.map (some t)] ∧ Rm w' t gray (restX G k gray) D ∧ Below w.heap.size w w' := by
  obtain ⟨A, cap, B, cb, rfl, h1, h2, h3⟩ := id hg
  obtain ⟨hko, kA, kc, rfl, hk1, hk2, hk3⟩ := id hk
  obtain ⟨hyo, yA, yc, rfl, hy1, hy2, hy3⟩ := id hy
  obtain ⟨v0, q, hv0, hq, K, hb0, hs0⟩ := box_any w (.slice A G.nodes.length cap) (.slice B G.roots.length cb)
  have hw0 : Below w.heap.size w v0 := by rw [hq]; exact hb0
  have H3 := Lib.hid h3
  have HK3 := Lib.hid hk3
  have HY3 := Lib.hid hy3
  have HYO := Lib.hid hyo
  have HCL := Lib.hid hcl
  have HKL := Lib.hid hkl
  have HW0 := Lib.hid hw0
  have HK := Lib.hid K
  have e0 := K.cell (i := 0) rfl
  have e1 := K.cell (i := 1) rfl
  have hmm := @run_makeMap Try.prog
  have hmf : ∀ (fn : Fn) (first cap : Array Value) (w : World), (Instr.makeFunc fn first cap).run Try.prog w = .ok (.func fn first cap) w := fun _ _ _ _ => rfl
  obtain ⟨v2, hv2, F0⟩ : ∃ v2, v0.alloc (.map #[] 0) = v2 ∧ (v2.heap.size = q + 2 ∧ Below v0.heap.size v0 v2 ∧ Rm v2 (q + 1) [] (fun _ => 0) (.map [])) := by
    refine ⟨_, rfl, by simp [hs0], (Below.refl _ v0).alloc (Nat.le_refl _) _, ?_⟩
    rw [← hs0]
    exact ⟨World.ownsMap_made v0 _ _ _, by simp [Maps.size], fun z => rfl, fun z h => by cases h⟩
  obtain ⟨v3, hv3, F1⟩ : ∃ v3, v2.alloc (.cells #[.map (some (q + 1))] 53) = v3 ∧ Rs v0 v3 q [] (fun _ => 0) (.map []) := by
    refine ⟨_, rfl, F0.2.2.below ((Below.refl _ v2).alloc (Nat.le_refl _) _), ?_, F0.2.1.alloc F0.2.1.size _⟩
    have := Blk.new v2 #[.map (some (q + 1))] 53
    rw [F0.1] at this
    exact this
  have hs2 := F0.1
  have HF1 := Lib.hid F1
  -- what stands behind whatever the loops do
  have keep : ∀ wx : World, Below v0.heap.size v0 wx → wx.cell? ⟨q, 0, none⟩ = some (.slice A G.nodes.length cap) ∧ wx.cell? ⟨q, 1, none⟩ = some (.slice B G.roots.length cb) ∧ Below w.heap.size w wx := fun wx h =>
    ⟨(K.below h (by omega)).cell (i := 0) rfl, (K.below h (by omega)).cell (i := 1) rfl, below_more hw0 h⟩
  have KP := Lib.hid keep
  clear h3 h2 K hb0 hg hk hk3 hy hy3 hyo hko hcl hw0 keep F0 F1 hkl
  go_enter Try.func23, Try.ntmps23
  go_wp2_with fail
  go_loopg [19] gray.length (fun g s19 wx => ∃ (j : Nat) (D : DataW Unit), j + g = gray.length ∧ s19 = .int .i64 j ∧ Aside (Rs v0 wx q (gray.take j) (fun _ => 0) D))
  case atStart => exact ⟨0, _, by omega, rfl, HF1.out⟩
  case round =>
    obtain ⟨j, D, hj, rfl, hS⟩ := hrel
    have cb0 := hS.out.blk.cell (i := 0) rfl
    cases gk with
    | succ g =>
      obtain ⟨z, hz⟩ : ∃ z, gray[j]? = some z := ⟨_, List.getElem?_eq_getElem (by omega)⟩
      obtain ⟨b, o, rfl, hbl, hc⟩ := HY3.out j z hz
      have d1 := ((KP.out _ hS.out.below).2.2.cell (p := ⟨b, _, none⟩) hbl).trans hc
      have hlt : (j : Int) < gray.length := by omega
      have hkey := keyOf_int_mk Try.underlying3 (Rt.i64_wf (HYO.out z (List.mem_of_getElem? hz)))
      have HX : Aside (gray.take (j + 1) = gray.take j ++ [z]) := hasB_take hz
      have hsz : Maps.size D < maxLen := by
        have := hS.out.map.size
        simp only [List.length_take] at this
        unfold maxLen
        omega
      have h0 : (Lit.int .i64 0).wf = true := Rt.i64_wf (by unfold i64ok; omega)
      clear hz hc hbl
      go_wp2_with (at_mapUpdate; refine wpList_mapUpdate_in _ rfl _ _ _ 53 rfl 3 3 Try.lawIntG Try.underlying53 _ (q + 1) (Maps.size D) D rfl hS.out.map.own hsz _ _ _ rfl rfl hkey _ [] (plainElem_int Try.underlying3 h0) ?_; intro w3 hown3 hturn3; have T3 : Aside (Rs v0 w3 q (gray.take j ++ [z]) (fun _ => 0) _) := hS.out.push hs0 (fun _ => rfl) hown3 hturn3; clear hown3 hturn3 d1 cb0)
      go_roundg g
      case measure => omega
      case rel => exact ⟨j + 1, _, by omega, by go_num, by show Rs _ _ _ _ _ _; rw [HX.out]; exact T3.out⟩
    | zero =>
      have : j = gray.length := by omega
      subst this
      have HS : Aside (Rs v0 wr q gray (eAt G k gray 0) D) := by
        have := hS.out
        rw [List.take_length] at this
        exact this.same (fun z _ => (eAt_zero z).symm)
      obtain ⟨k0, k1, _⟩ := KP.out _ hS.out.below
      clear hS
      go_wp2_with fail
      clear k0 k1 cb0
      go_loopg [29] G.nodes.length (fun g s29 wx => ∃ (j : Nat) (D : DataW Unit), j + g = G.nodes.length ∧ s29 = .int .i64 j ∧ Aside (Rs v0 wx q gray (eAt G k gray j) D))
      case atStart => exact ⟨0, D, by omega, rfl, HS.out⟩
      case round =>
        obtain ⟨j, D, hj, rfl, hS⟩ := hrel
        obtain ⟨k0, k1, hbw⟩ := KP.out _ hS.out.below
        clear HS
        cases gk with
        | zero =>
          have : j = G.nodes.length := by omega
          subst this
          have HR : Aside (Rs v0 wr q gray (restX G k gray) D) := hS.out.same (fun z _ => eAt_end z HKL.out)
          have HBW := Lib.hid hbw
          clear hS k0 k1 hbw
          go_wp2_with fail
          go_ret
          exact ⟨q + 2, q + 1, D, rfl, HR.out.blk, HR.out.map, HBW.out⟩
        | succ g =>
          obtain ⟨x, hx⟩ : ∃ x, G.nodes[j]? = some x := ⟨_, List.getElem?_eq_getElem (by omega)⟩
          obtain ⟨hxo, b, o, C, cc, rfl, hbl, c1, c2, hrd⟩ := H3.out j x hx
          have hlt : (j : Int) < G.nodes.length := by omega
          have d1 := (hbw.cell (p := ⟨b, _, none⟩) hbl).trans c1
          have d2 := (hbw.cell (p := ⟨b, _, none⟩) hbl).trans c2
          obtain ⟨d, hd⟩ : ∃ d, k[j]? = some d := ⟨_, List.getElem?_eq_getElem (by have := HKL.out; omega)⟩
          obtain ⟨kb, ko, rfl, hkb, hkc⟩ := HK3.out j d hd
          obtain ⟨v4, hv4, HS3⟩ : ∃ v4, wr.alloc (.cells #[.int .i64 x.id, .slice C x.out.length cc] 38) = v4 ∧ (Rs v0 v4 q gray (eAt G k gray j) D ∧ Blk v4 wr.heap.size 38 [.int .i64 x.id, .slice C x.out.length cc]) := ⟨_, rfl, hS.out.alloc _, Blk.new wr _ _⟩
          have HN4 := Lib.hid HS3.2
          have hqm : q + 1 < wr.heap.size := hS.out.map.own.lt
          have n0 := HS3.2.cell (i := 0) rfl
          have n1 := HS3.2.cell (i := 1) rfl
          have HS3 : Aside (Rs v0 v4 q gray (eAt G k gray j) D) := HS3.1
          obtain ⟨v, hlk⟩ := HS3.out.map.look_ok hxo
          have cb1 := HS3.out.blk.cell (i := 0) rfl
          have HX : Aside (G.nodes[j]? = some x ∧ k[j]? = some d) := ⟨hx, hd⟩
          have hkc := ((KP.out _ HS3.out.below).2.2.cell (p := ⟨kb, _, none⟩) hkb).trans hkc
          have hkk : (j : Int) < k.length := by have := HKL.out; omega
          clear hx c1 c2 hd hkb hbw
          cases hgx : Rt.hasB gray x.id
          · rw [hgx] at hlk
            have HG := Lib.hid hgx
            clear hgx hrd hbl hkc
            go_wp2_with fail
            go_roundg g
            case measure => omega
            case rel => exact ⟨j + 1, D, by omega, by go_num, HS3.out.same (fun z hz => (eAt_out HX.out.1 HX.out.2 HG.out hz).symm)⟩
          · rw [hgx] at hlk
            have hlk2 := HS3.out.map.look hxo hgx
            have hxo' : i64ok x.id := hxo
            have hxl : x.out.length ≤ 9223372036854775807 := by
              obtain ⟨_, _, _, e, h1, h2, _⟩ := id hrd
              omega
            obtain ⟨hxr, xA, xc, hxe, _, _, hx3⟩ := id hrd
            simp only [Value.slice.injEq, true_and] at hxe
            obtain ⟨rfl, rfl⟩ := hxe
            have HX3 := Lib.hid hx3
            have HXR := Lib.hid hxr
            have HGO : Aside (∀ o ∈ x.out, Rt.hasB gray o = true) := HCL.out x (List.mem_of_getElem? HX.out.1) hgx
            have HG := Lib.hid hgx
            have hkey := keyOf_int_mk Try.underlying3 (Rt.i64_wf hxo)
            have hsz : Maps.size D < maxLen := by
              have := HS3.out.map.size
              unfold maxLen
              omega
            obtain ⟨a, ha⟩ : ∃ a, wrap64 (eAt G k gray j x.id) = a := ⟨_, rfl⟩
            rw [ha] at hlk2
            have HA := Lib.hid ha
            have hwf : (Lit.int .i64 (wrap64 (a + d))).wf = true := Rt.i64_wf (wrap64_ok _)
            clear hgx hrd hx3 hxr hbl hxo ha
            obtain ⟨w5, hup, hown5, hturn5⟩ := (show v4.drew.ownsMap Try.prog 3 (plainElem Try.prog 3) (q + 1) (Maps.size D) D from HS3.out.map.own).store Try.lawIntG Try.underlying53 hsz hkey (plainElem_int Try.underlying3 hwf)
            have T5 : Aside (Rs v0 w5 q gray (fun z => eAt G k gray j z + (if x.id = z then d else 0) - ((x.out.take 0).count z : Int)) _) := HS3.out.drew.put hs0 HG.out (by simp [← HA.out, wrap_in]) (fun z hz hgz => by simp [hz]) hown5 hturn5
            have hlk3 := HS3.out.drew.map.look hxo' HG.out
            rw [HA.out] at hlk3
            have m1 := (HN4.out.drew.only (Only.of_grown (S := [q + 1]) hturn5.grown (by simp)) (by simp; omega)).cell (i := 1) rfl
            clear hown5 hturn5
            go_wp2_with fail
            go_region
            clear hup hlk hlk2 hlk3 hkc d1 d2 n0 n1 cb1 hv4 hwf hsz k0 k1
            go_wp2_with fail
            go_loopg [55] x.out.length (fun gi s55 wx => ∃ (i : Nat) (D : DataW Unit), i + gi = x.out.length ∧ s55 = .int .i64 i ∧ Aside (Rs v0 wx q gray (fun z => eAt G k gray j z + (if x.id = z then d else 0) - ((x.out.take i).count z : Int)) D))
            case atStart => exact ⟨0, _, by omega, rfl, T5.out⟩
            case round =>
              obtain ⟨i, D, hi, rfl, hS⟩ := hrel
              have cb2 := hS.out.blk.cell (i := 0) rfl
              cases gk with
              | zero =>
                have : i = x.out.length := by omega
                subst this
                have HE : Aside (Rs v0 wr q gray (eAt G k gray (j + 1)) D) := hS.out.same (fun z _ => by
                  rw [eAt_in HX.out.1 HX.out.2 HG.out, List.take_length])
                clear hS T5
                go_wp2_with fail
                go_roundg g
                case measure => omega
                case rel => exact ⟨j + 1, D, by omega, by go_num, HE.out⟩
              | succ gi =>
                obtain ⟨z, hz⟩ : ∃ z, x.out[i]? = some z := ⟨_, List.getElem?_eq_getElem (by omega)⟩
                obtain ⟨b', o', rfl, hbl', hc⟩ := HX3.out i z hz
                have d1 := ((KP.out _ hS.out.below).2.2.cell (p := ⟨b', _, none⟩) hbl').trans hc
                have hzm := List.mem_of_getElem? hz
                have hgz := HGO.out z hzm
                have hzo := HXR.out z hzm
                have hlt' : (i : Int) < x.out.length := by omega
                have hlk := hS.out.map.look hzo hgz
                have hkey := keyOf_int_mk Try.underlying3 (Rt.i64_wf hzo)
                have hsz : Maps.size D < maxLen := by
                  have := hS.out.map.size
                  unfold maxLen
                  omega
                obtain ⟨a', ha'⟩ : ∃ a', wrap64 (eAt G k gray j z + (if x.id = z then d else 0) - ((x.out.take i).count z : Int)) = a' := ⟨_, rfl⟩
                rw [ha'] at hlk
                have HA' := Lib.hid ha'
                have HGZ := Lib.hid hgz
                have hwf : (Lit.int .i64 (wrap64 (a' - 1))).wf = true := Rt.i64_wf (wrap64_ok _)
                have HZ : Aside (x.out.take (i + 1) = x.out.take i ++ [z]) := take_snoc hz
                clear hz hc hbl' ha' hgz hzo hzm T5
                go_wp2_with (at_mapUpdate; refine wpList_mapUpdate_in _ rfl _ _ _ 53 rfl 3 3 Try.lawIntG Try.underlying53 _ (q + 1) (Maps.size D) D rfl hS.out.map.own hsz _ _ _ rfl rfl hkey _ [] (plainElem_int Try.underlying3 hwf) ?_; intro w3 hown3 hturn3; have T3 : Aside (Rs v0 w3 q gray (fun y => eAt G k gray j y + (if x.id = y then d else 0) - ((x.out.take (i + 1)).count y : Int)) _) := hS.out.put hs0 HGZ.out (by rw [← HA'.out, wrap_out, HZ.out, List.count_append]; simp; congr 1; omega) (fun y hy _ => by rw [HZ.out, List.count_append, List.count_eq_zero.2 (by simpa using fun e => hy e.symm : y ∉ [z])]; simp) hown3 hturn3; clear hown3 hturn3 d1 hlk cb2)
                go_roundg gi
                case measure => omega
                case rel => exact ⟨i + 1, _, by omega, by go_num, T3.out⟩
end Tr
end Go.Proofs.Ytmnjbinmfbjbaaa
