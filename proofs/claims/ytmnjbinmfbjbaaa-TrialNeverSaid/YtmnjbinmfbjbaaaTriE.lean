/- The program's Gray, Rests. -/
import Derived.Test.YtmnjbinmfbjbaaaTriD
import Derived.Laws.MakeOwn
namespace Go.Proofs.Ytmnjbinmfbjbaaa
namespace Tr
open Go.RowKit Go.Maps Gr

/-- What the closure holds. -/
structure Cl (w : World) (cb t : Nat) (gray : List Int) (f : Int → Int) (D : DataW Unit) : Prop where
  blk : Blk w cb 53 [.map (some t)]
  map : Rm w t gray f D
section
variable {w w' : World} {cb t : Nat} {gray : List Int} {f : Int → Int} {D : DataW Unit}
theorem Cl.only {T : List Nat} (h : Cl w cb t gray f D) (ho : Only T w w') (h1 : cb ∉ T) (h2 : t ∉ T) : Cl w' cb t gray f D := ⟨h.blk.only ho h1, h.map.only ho h2⟩
theorem Cl.below (h : Cl w cb t gray f D) (hb : Below w.heap.size w w') : Cl w' cb t gray f D := h.only (Only.of_below (S := []) hb) (by simp) (by simp)
theorem Cl.call (h : Cl w cb t gray f D) {x : Int} (hx : i64ok x) (hg : Rt.hasB gray x = true) :
    Calls Try.prog 32 #[.int .i64 x, .pointer (some ⟨cb, 0, none⟩)] w fun e w' => e = .returned (.int .i64 (wrap64 (f x))) ∧ w = w' := trest_any h.map (h.blk.cell rfl) hx hg
theorem Cl.lt (h : Cl w cb t gray f D) : cb < w.heap.size ∧ t < w.heap.size := ⟨h.blk.lt, h.map.own.lt⟩
end
theorem reach_closed {G : Gp} (hr : Ri G) (c : List Int) : ∀ n ∈ G.nodes, Rt.hasB (reachL G c) n.id = true → ∀ o ∈ n.out, Rt.hasB (reachL G c) o = true := fun n hn h o ho => by
  rw [Rt.hasB_iff] at h ⊢
  exact (mem_reach hr).2 (((mem_reach hr).1 h).step hn ho)
theorem reachA_right {G : Gp} {c : List Int} (h : rightB G = true) : reachA G c = reachL G c := by simp [reachA, h]
theorem reach_ok {G : Gp} {c : List Int} (h : ∀ z ∈ ids G, i64ok z) : ∀ z ∈ reachL G c, i64ok z := fun z hz => h z (reach_ids hz)
theorem madeInts (n : Nat) : (madeCells #[.int .i64 0] n).toList = vals (List.replicate n 0) := by
  induction n with
  | zero => simp [madeCells, vals]
  | succ n ih =>
    rw [List.replicate_succ', vals_snoc, ← ih]
    simp [madeCells, List.range_succ, Nat.mod_one]
theorem run_ints (w : World) (n : Nat) (h : n ≤ 65536) :
    (Instr.makeSlice 23 (.int .i64 n) (.int .i64 n)).run Try.prog w = .ok (.slice (some ⟨w.heap.size, 0, none⟩) n n) (w.alloc (.cells (madeCells #[.int .i64 0] n) 3)) := by
  obtain ⟨i, h1, h2, h3, h4⟩ := info_parts Try.infoInt
  have := run_make (P := Try.prog) w 23 3 i (.int .i64 0) Try.underlying23 h1 h2 .i64 .i64 n n (by omega) (Int.le_refl _) (by rw [h4]; omega) (by omega)
  rw [h3, Int.toNat_natCast, Nat.mul_one] at this
  exact this
theorem row_blk {w : World} {g base n : Nat} {L : List Int} (hb : Blk w g 3 (vals L)) (hg : base ≤ g) (hn : L.length = n) (hl : n ≤ 65536) : w.ownsRow base 3 1 (.slice (some ⟨g, 0, none⟩) n n) L.length (vals L) := by
  subst hn
  refine ⟨by simp [vals], .inr ⟨g, L.length, (vals L).toArray, rfl, hg, ?_, Nat.le_refl _, by unfold maxLen; omega, by simp [vals], ?_⟩⟩
  · unfold Blk at hb
    simpa using hb
  · rw [List.take_of_length_le (by simp [vals])]
theorem fill_rest {R : List Int} {j : Nat} {v : Int} (h : R[j]? = some v) : (R.take j ++ List.replicate (R.length - j) 0).set j v = R.take (j + 1) ++ List.replicate (R.length - (j + 1)) 0 := by
  obtain ⟨hj, rfl⟩ := List.getElem?_eq_some_iff.1 h
  have e : R.length - j = (R.length - (j + 1)) + 1 := by omega
  have h0 : j - (R.take j).length = 0 := by simp; omega
  rw [List.set_append_right _ _ (by simp; omega), h0, e, List.replicate_succ, List.set_cons_zero, List.take_succ_eq_append_getElem hj, List.append_assoc]
  rfl

set_option maxRecDepth 100000 in
set_option maxHeartbeats 800000 in
theorem pgray_any (G : Gp) (c : List Int) (w : World) (gv cv : Value) (hg : GrAt w gv G) (hc : Rd w cv c) (hn : G.nodes.length ≤ 1000) :
    Calls Try.prog 8 #[gv, cv] w fun e w' => ∃ u, e = .returned u ∧ w'.ownsRow w.heap.size 3 1 u (grayA G c).length (vals (grayA G c)) ∧ Below w.heap.size w w' := by
  obtain ⟨A, cap, B, cb, rfl, h1, h2, h3⟩ := id hg
  obtain ⟨v0, q, hv0, hq, K, hb0, hs0⟩ := box_any w (.slice A G.nodes.length cap) (.slice B G.roots.length cb)
  have hw0 : Below w.heap.size w v0 := by rw [hq]; exact hb0
  have hg0 := hg.below hw0
  have HG0 := Lib.hid hg0
  have HC0 := Lib.hid (hc.below hw0)
  have HW0 := Lib.hid hw0
  have e0 := K.cell (i := 0) rfl
  have e1 := K.cell (i := 1) rfl
  have HK := Lib.hid K
  have HB0 := Lib.hid hb0
  have cN := tnodes_any G c v0 _ _ hg0 (hc.below hw0) hn
  clear h3 h2 K hg hc hg0 hw0 hb0
  go_enter Try.func8, Try.ntmps8
  cases hw : withinB c (ids G)
  · rw [hw] at cN
    have HA : Aside (grayA G c = []) := by show _ = _; simp [grayA, hw]
    clear hw
    go_wp2_with fail
    refine cN.mono ?_
    rintro e w1 ⟨rfl, hb1⟩
    have HB1 : Aside (Below v0.heap.size v0 w1) := hb1
    clear hb1 cN e0 e1
    go_wp2_with fail
    go_ret
    exact ⟨_, rfl, by rw [HA.out]; exact World.ownsRow_nil _ _ _ _, by rw [hq]; exact HB0.out.trans (HB1.out.mono (by omega))⟩
  · rw [hw] at cN
    have HA : Aside (grayA G c = reachA G c) := by show _ = _; simp [grayA, hw]
    clear hw
    go_wp2_with fail
    refine cN.mono ?_
    rintro e w1 ⟨rfl, hb1⟩
    have HB1 : Aside (Below v0.heap.size v0 w1) := hb1
    clear hb1 cN e0 e1
    have k0 := (HK.out.below HB1.out (by omega)).cell (i := 0) rfl
    have k1 := (HK.out.below HB1.out (by omega)).cell (i := 1) rfl
    have cR := preach_any G c w1 _ _ (HG0.out.below HB1.out) (HC0.out.below HB1.out) hn
    go_wp2_with fail
    refine cR.mono ?_
    rintro e w2 ⟨u, rfl, hu, hb2⟩
    have HU := Lib.hid hu
    have HB2 : Aside (Below v0.heap.size v0 w2) := below_more HB1.out hb2
    clear hu hb2 cR k0 k1
    go_wp2_with fail
    go_ret
    exact ⟨u, rfl, by rw [HA.out]; exact row_low HU.out (below_more HW0.out HB1.out).size, below_more HW0.out HB2.out⟩

set_option maxRecDepth 100000 in
set_option maxHeartbeats 1600000 in
theorem prests_any (G : Gp) (k c : List Int) (w : World) (gv kv cv : Value) (hg : GrAt w gv G) (hk : Rd w kv k) (hc : Rd w cv c) (hn : G.nodes.length ≤ 1000) :
    Calls Try.prog 10 #[gv, kv, cv] w fun e w' => ∃ u, e = .returned u ∧ w'.ownsRow w.heap.size 3 1 u (restsA G k c).length (vals (restsA G k c)) ∧ Below w.heap.size w w' := by
  have hio := hg.ids_ok
  obtain ⟨A, cap, B, cb, rfl, h1, h2, h3⟩ := id hg
  obtain ⟨v0, q, hv0, hq, K, hb0, hs0⟩ := box_any w (.slice A G.nodes.length cap) (.slice B G.roots.length cb)
  have hw0 : Below w.heap.size w v0 := by rw [hq]; exact hb0
  have hg0 := hg.below hw0
  have HG0 := Lib.hid hg0
  have HC0 := Lib.hid (hc.below hw0)
  have HK0 := Lib.hid (hk.below hw0)
  have HW0 := Lib.hid hw0
  have HI := Lib.hid hio
  have e0 := K.cell (i := 0) rfl
  have e1 := K.cell (i := 1) rfl
  have HK := Lib.hid K
  have HB0 := Lib.hid hb0
  have cT := tright_any G k c v0 _ _ _ hg0 (hk.below hw0) (hc.below hw0) hn
  have hmf : ∀ (fn : Fn) (first cap : Array Value) (w : World), (Instr.makeFunc fn first cap).run Try.prog w = .ok (.func fn first cap) w := fun _ _ _ _ => rfl
  clear h3 h2 K hg hk hc hg0 hw0 hb0 hio
  go_enter Try.func10, Try.ntmps10
  cases ht : trialB G k c
  · rw [ht] at cT
    have HA : Aside (restsA G k c = []) := by show _ = _; simp [restsA, ht]
    clear ht
    go_wp2_with fail
    refine cT.mono ?_
    rintro e w1 ⟨rfl, hb1⟩
    have HB1 : Aside (Below v0.heap.size v0 w1) := hb1
    clear hb1 cT e0 e1
    go_wp2_with fail
    go_ret
    exact ⟨_, rfl, by rw [HA.out]; exact World.ownsRow_nil _ _ _ _, by rw [hq]; exact HB0.out.trans (HB1.out.mono (by omega))⟩
  · rw [ht] at cT
    have HA : Aside (restsA G k c = restsL G k (reachL G c)) := by show _ = _; simp [restsA, ht]
    obtain ⟨t1, t2, _, _⟩ := trialB_facts ht
    have HRi := Lib.hid (rightB_ri t1)
    have HRA := Lib.hid (reachA_right (c := c) t1)
    have HT2 := Lib.hid t2
    clear ht t1 t2
    go_wp2_with fail
    refine cT.mono ?_
    rintro e w1 ⟨rfl, hb1⟩
    have HB1 : Aside (Below v0.heap.size v0 w1) := hb1
    clear hb1 cT e0 e1
    have k0 := (HK.out.below HB1.out (by omega)).cell (i := 0) rfl
    have k1 := (HK.out.below HB1.out (by omega)).cell (i := 1) rfl
    have cR := preach_any G c w1 _ _ (HG0.out.below HB1.out) (HC0.out.below HB1.out) hn
    rw [HRA.out] at cR
    go_wp2_with fail
    refine cR.mono ?_
    rintro e w2 ⟨u, rfl, hu, hb2⟩
    have HB2 : Aside (Below v0.heap.size v0 w2) := below_more HB1.out hb2
    obtain ⟨yl, hyl⟩ : ∃ L, reachL G c = L := ⟨_, rfl⟩
    have hrd : Rd w2 u (reachL G c) := Rd.row hu (reach_ok HI.out)
    have hlen := reach_len (G := G) c
    obtain ⟨uA, uc, rfl⟩ : ∃ uA uc, u = .slice uA (reachL G c).length uc := by
      obtain ⟨_, uA, uc, e, _⟩ := id hrd
      exact ⟨uA, uc, e⟩
    have HCL := Lib.hid (reach_closed HRi.out c)
    have cS := trests_any G k (reachL G c) w2 _ _ _ (HG0.out.below HB2.out) (HK0.out.below HB2.out) hrd (by omega) HT2.out HCL.out
    rw [hyl] at cS hrd hlen
    rw [hyl]
    have HYL := Lib.hid hyl
    have HRD := Lib.hid hrd
    clear hu hb2 cR k0 k1 hrd hyl
    have k0 := (HK.out.below HB2.out (by omega)).cell (i := 0) rfl
    have k1 := (HK.out.below HB2.out (by omega)).cell (i := 1) rfl
    go_wp2_with fail
    refine cS.mono ?_
    rintro e w3 ⟨ce, t, D, rfl, hB, hM, hb3⟩
    have HC : Aside (Cl w3 ce t yl (restX G k yl) D) := ⟨hB, hM⟩
    have HB3 : Aside (Below v0.heap.size v0 w3) := below_more HB2.out hb3
    have HD3 : Aside (Below w2.heap.size w2 w3) := hb3
    clear cS hB hM hb3 k0 k1
    have hmk := run_ints w3 yl.length (by omega)
    obtain ⟨v4, hv4, m, hm, F0⟩ : ∃ v4, w3.alloc (.cells (madeCells #[.int .i64 0] yl.length) 3) = v4 ∧ ∃ m, w3.heap.size = m ∧ (Blk v4 m 3 (vals (List.replicate yl.length 0)) ∧ Below w3.heap.size w3 v4) :=
      ⟨_, rfl, _, rfl, by have := Blk.new w3 (madeCells #[.int .i64 0] yl.length) 3; rwa [madeInts] at this, (Below.refl _ w3).alloc (Nat.le_refl _) _⟩
    have HF0 := Lib.hid F0
    have hlt2 := HC.out.lt
    rw [hm] at hlt2
    clear F0
    have hRl : (yl.map (restV G k yl)).length = yl.length := by simp
    have HRl := Lib.hid hRl
    clear hRl
    go_wp2_with fail
    clear hmk
    go_loopg [29] yl.length (fun g s29 wx => ∃ (j : Nat), j + g = yl.length ∧ s29 = .int .i64 j ∧ Aside (Blk wx m 3 (vals ((yl.map (restV G k yl)).take j ++ List.replicate (yl.length - j) 0))) ∧ Aside (Only [m] v4 wx))
    case atStart => exact ⟨0, by omega, rfl, by show Blk _ _ _ _; simpa using HF0.out.1, Only.refl _ _⟩
    case round =>
      obtain ⟨j, hj, rfl, hU, hO⟩ := hrel
      have hbw : Below w3.heap.size w3 wr := HF0.out.2.trans (hO.out.below HF0.out.2.size (by simp; omega))
      have HBW := Lib.hid hbw
      cases gk with
      | zero =>
        have : j = yl.length := by omega
        subst this
        have HZ : Aside (wr.ownsRow w.heap.size 3 1 (.slice (some ⟨m, 0, none⟩) yl.length yl.length) (restsA G k c).length (vals (restsA G k c))) := by
          have h1 := hU.out
          rw [List.take_of_length_le (by rw [HRl.out]; exact Nat.le_refl _), Nat.sub_self, List.replicate_zero, List.append_nil] at h1
          have h2 := row_blk (base := w.heap.size) h1 (by have := HW0.out.size; have := HB3.out.size; omega) HRl.out (by omega)
          show World.ownsRow _ _ _ _ _ _ _
          rw [HA.out, HYL.out]
          exact h2
        have HBZ : Aside (Below w.heap.size w wr) := below_more (below_more HW0.out HB3.out) HBW.out
        clear hU hO hbw
        go_wp2_with fail
        go_ret
        exact ⟨_, rfl, HZ.out, HBZ.out⟩
      | succ g =>
        obtain ⟨z, hz⟩ : ∃ z, yl[j]? = some z := ⟨_, List.getElem?_eq_getElem (by omega)⟩
        obtain ⟨hyo, _, _, e, _, _, hy3⟩ := HRD.out
        simp only [Value.slice.injEq, true_and] at e
        obtain ⟨rfl, rfl⟩ := e
        obtain ⟨b, o, rfl, hbl, hc⟩ := hy3 j z hz
        have d1 := ((below_more HD3.out HBW.out).cell (p := ⟨b, _, none⟩) hbl).trans hc
        have hlt : (j : Int) < yl.length := by omega
        have hcl := (HC.out.below HBW.out).call (hyo z (List.mem_of_getElem? hz)) (Rt.hasB_iff.2 (List.mem_of_getElem? hz))
        have hRj : (yl.map (restV G k yl))[j]? = some (wrap64 (restX G k yl z)) := by
          rw [List.getElem?_map, hz]; rfl
        obtain ⟨a, ha⟩ : ∃ a, wrap64 (restX G k yl z) = a := ⟨_, rfl⟩
        rw [ha] at hRj hcl
        have hfil : (vals ((yl.map (restV G k yl)).take j ++ List.replicate (yl.length - j) 0)).set j (.int .i64 a) = vals ((yl.map (restV G k yl)).take (j + 1) ++ List.replicate (yl.length - (j + 1)) 0) := by
          have := fill_rest hRj
          rw [HRl.out] at this
          rw [vals_set, this]
        have HU3 : Aside (Blk (wr.setCell ⟨m, j, none⟩ (.int .i64 a)) m 3 (vals ((yl.map (restV G k yl)).take (j + 1) ++ List.replicate (yl.length - (j + 1)) 0))) := by
          have := hU.out.set j (.int .i64 a)
          rw [hfil] at this
          exact this
        have HO3 : Aside (Only [m] v4 (wr.setCell ⟨m, j, none⟩ (.int .i64 a))) := hO.out.setCell (.inl (by simp)) _
        have c1 : ∃ y, wr.cell? ⟨m, j, none⟩ = some (.int .i64 y) := ⟨_, hU.out.cell (vals_at _ j (by simp; omega))⟩
        obtain ⟨y, c1⟩ := c1
        have f1 := hU.out.free j
        clear hz hc hy3 hyo hbl hbw hfil hRj ha hU hO
        go_wp2_with (go_at_call 32; refine hcl.mono ?_; rintro e w5 ⟨rfl, rfl⟩)
        go_roundg g
        case measure => omega
        case rel => exact ⟨j + 1, by omega, by go_num, HU3.out, HO3.out⟩
end Tr
end Go.Proofs.Ytmnjbinmfbjbaaa
