/- The program's map of nodes: outs, nodes; Right. -/
import Derived.Test.YtmnjbinmfbjbaaaGraF
namespace Go.Proofs.Ytmnjbinmfbjbaaa
namespace Gr
open Go.RowKit Go.Maps

theorem Try.lawIntG : Keyed Try.prog 3 := int_keyed Try.underlying3
theorem Try.zeroInts (w : World) : (zeroValue 23).run Try.prog w = .ok (.slice none 0 0) w := by kernel_rfl
theorem map_only {H : Type} {P : Program} {k : TypeId} {R : Value → Option (DataW H × List MemPlace)} {w w' : World} {b n : Nat} {D : DataW H} {S : List Nat} (h : w.ownsMap P k R b n D) (ho : Only S w w') (hb : b ∉ S) : w'.ownsMap P k R b n D := by
  have hl := h.lt
  obtain ⟨es, clock, he, r⟩ := h
  exact ⟨es, clock, (ho.block b hl hb).trans he, r⟩
theorem map_isMap {H : Type} {P : Program} {k : TypeId} {R : Value → Option (DataW H × List MemPlace)} {w : World} {b n : Nat} {D : DataW H} (h : w.ownsMap P k R b n D) : IsMap D := by
  obtain ⟨es, clock, _, _, _, rfl⟩ := h
  exact ⟨_, rfl⟩
def heldR (v : Value) : Option (DataW Value × List MemPlace) := some (.held v, [])
theorem ky_ne {a b : Int} (h : a ≠ b) : Rt.ky a ≠ Rt.ky b := fun e => h (by simpa [Rt.ky] using e)
theorem ky_key (a : Int) : WideAt.IsKeyLit (Rt.ky a) := by unfold Rt.ky; simp [WideAt.IsKeyLit]

/-- Block m of wr is a map that has just the IDs that S tells, each with a value that reads, in w0, as its node's Out. -/
structure Lf (w0 : World) (G : Gp) (wr : World) (m n : Nat) (S : Int → Bool) (D : DataW Value) : Prop where
  own : wr.ownsMap Try.prog 3 heldR m n D
  has : ∀ z, Maps.has D (Rt.ky z) = S z
  outs : ∀ z, S z = true → ∃ x ∈ G.nodes, x.id = z ∧ ∃ v, (∀ zd, D.atKey (Rt.ky z) zd = .held v) ∧ Rd w0 v x.out
section
variable {w0 wr wr' : World} {G : Gp} {m n : Nat} {S : Int → Bool} {D : DataW Value}
theorem Lf.only {T : List Nat} (h : Lf w0 G wr m n S D) (ho : Only T wr wr') (hm : m ∉ T) : Lf w0 G wr' m n S D := ⟨map_only h.own ho hm, h.has, h.outs⟩
theorem Lf.below (h : Lf w0 G wr m n S D) (hb : Below wr.heap.size wr wr') : Lf w0 G wr' m n S D := h.only (Only.of_below (S := []) hb) (by simp)
theorem Lf.look (h : Lf w0 G wr m n S D) {x : Int} (hx : i64ok x) : ∃ v, (Instr.lookup 50 (.map (some m)) (.int .i64 x) true).run Try.prog wr = .ok (.tuple #[v, .bool (S x)]) wr ∧
    (S x = true → ∃ y ∈ G.nodes, y.id = x ∧ Rd w0 v y.out) := by
  obtain ⟨v, ps, hrun, hv⟩ := h.own.look_ok Try.lawIntG Try.underlying50 (Try.zeroInts wr) (zd := .held (.slice none 0 0)) (zp := []) rfl (keyOf_int_mk Try.underlying3 (Rt.i64_wf hx))
  rw [show (Lit.int .i64 x) = Rt.ky x from rfl, h.has] at hrun
  refine ⟨v, hrun, fun hs => ?_⟩
  obtain ⟨y, hy, he, u, hat, hr⟩ := h.outs x hs
  rw [show (Lit.int .i64 x) = Rt.ky x from rfl, hat] at hv
  simp only [heldR, Option.some.injEq, Prod.mk.injEq, DataW.held.injEq] at hv
  rw [hv.1]
  exact ⟨y, hy, he, hr⟩
theorem Lf.put (h : Lf w0 G wr m n S D) {x : Nd} (hx : x ∈ G.nodes) {v : Value} (hv : Rd w0 v x.out) (hown : wr'.ownsMap Try.prog 3 heldR m (n + 1) (D.put (Rt.ky x.id) (.held v))) :
    Lf w0 G wr' m (n + 1) (fun z => S z || x.id == z) (D.put (Rt.ky x.id) (.held v)) := by
  have hI := map_isMap h.own
  refine ⟨hown, fun z => ?_, fun z hz => ?_⟩
  · by_cases e : x.id = z
    · subst e
      rw [has_put_same hI (ky_key _)]
      simp
    · rw [has_put_other (ky_ne (fun e' => e e'.symm)), h.has]
      simp [e]
  · by_cases e : x.id = z
    · subst e
      exact ⟨x, hx, rfl, v, fun zd => atKey_put_same hI (ky_key _) _ _, hv⟩
    · have hz' : S z = true := by simpa [e] using hz
      obtain ⟨y, hy, he, u, hat, hr⟩ := h.outs z hz'
      exact ⟨y, hy, he, u, fun zd => by rw [atKey_put_other (ky_ne (fun e' => e e'.symm))]; exact hat zd, hr⟩
theorem Lf.del (h : Lf w0 G wr m n S D) (x : Int) (hown : wr'.ownsMap Try.prog 3 heldR m n (D.del (Rt.ky x))) :
    Lf w0 G wr' m n (fun z => S z && !(x == z)) (D.del (Rt.ky x)) := by
  refine ⟨hown, fun z => ?_, fun z hz => ?_⟩
  · by_cases e : x = z
    · subst e
      rw [has_del_same]
      simp
    · rw [has_del_other (ky_ne (fun e' => e e'.symm)), h.has]
      simp [e]
  · by_cases e : x = z
    · subst e
      simp at hz
    · have hz' : S z = true := by simpa [e] using hz
      obtain ⟨y, hy, he, u, hat, hr⟩ := h.outs z hz'
      exact ⟨y, hy, he, u, fun zd => by rw [atKey_del_other (ky_ne (fun e' => e e'.symm))]; exact hat zd, hr⟩
end

set_option maxRecDepth 100000 in
set_option maxHeartbeats 800000 in
theorem nodes_any {w0 : World} {G : Gp} {m n : Nat} {S : Int → Bool} {D : DataW Value} (l : List Int) (w : World) (u : Value) (hD : Lf w0 G w m n S D) (hu : Rd w u l) :
    Calls Try.prog 38 #[.map (some m), u] w fun e w' => e = .returned (.bool (l.all S)) ∧ w = w' := by
  obtain ⟨hlo, A, cap, rfl, hc1, hc2, ha⟩ := hu
  have HA := Lib.hid ha
  have HLo := Lib.hid hlo
  have HD := Lib.hid hD
  clear ha hlo hD
  go_enter Try.func38, Try.ntmps38
  go_wp2_with fail
  go_loopg [11] l.length (fun g s11 wr => ∃ (j : Nat), j + g = l.length ∧ s11 = .int .i64 j ∧ Aside ((l.drop j).all S = l.all S) ∧ w = wr)
  case atStart => exact ⟨0, by omega, rfl, rfl, rfl⟩
  case round =>
    obtain ⟨j, hj, rfl, hr, rfl⟩ := hrel
    cases gk with
    | zero =>
      have : j = l.length := by omega
      subst this
      have hr' := hr.out
      rw [List.drop_length] at hr'
      have HR := Lib.hid hr'
      clear hr' hr
      go_wp2_with fail
      go_ret
      exact ⟨ret_bool HR.out, rfl⟩
    | succ g =>
      obtain ⟨z, hz⟩ : ∃ z, l[j]? = some z := ⟨_, List.getElem?_eq_getElem (by omega)⟩
      obtain ⟨b, o, rfl, _, hg⟩ := HA.out j z hz
      have hlt : (j : Int) < l.length := by omega
      have HR : Aside ((S z && (l.drop (j + 1)).all S) = l.all S) := by
        have := hr.out
        rw [Rt.drop_at hz] at this
        exact this
      obtain ⟨v, hlk, _⟩ := HD.out.look (HLo.out z (List.mem_of_getElem? hz))
      clear hr hz
      cases hs : S z
      · rw [hs] at hlk
        go_wp2_with fail
        go_ret
        exact ⟨ret_bool (by rw [← HR.out, hs]; rfl), rfl⟩
      · rw [hs] at hlk
        go_wp2_with fail
        go_roundg g
        case measure => omega
        case rel => exact ⟨j + 1, by omega, by go_num, by show _ = _; rw [← HR.out, hs]; rfl, rfl⟩

set_option maxRecDepth 100000 in
set_option maxHeartbeats 1600000 in
theorem outs_any (G : Gp) (w : World) (gv : Value) (hg : GrAt w gv G) (hn : G.nodes.length ≤ 1000) :
    Calls Try.prog 35 #[gv] w fun e w' => ∃ m D, e = .returned (.map (some m)) ∧ Lf w G w' m G.nodes.length (Rt.hasB (ids G)) D ∧ w.heap.size ≤ m ∧ Below w.heap.size w w' := by
  have hio := hg.ids_ok
  obtain ⟨A, cap, B, cb, rfl, h1, h2, h3⟩ := id hg
  obtain ⟨v0, q, hv0, hq, K, hb0, hs0⟩ := box_any w (.slice A G.nodes.length cap) (.slice B G.roots.length cb)
  have H3 := Lib.hid h3
  have e0 := K.cell (i := 0) rfl
  have e1 := K.cell (i := 1) rfl
  have HB0 := Lib.hid hb0
  have hmm := @run_makeMap Try.prog
  obtain ⟨v2, hv2, F0⟩ : ∃ v2, v0.alloc (.map #[] 0) = v2 ∧ (Lf w G v2 (q + 1) 0 (fun _ => false) (.map []) ∧ Below v0.heap.size v0 v2 ∧ v2.heap.size = q + 2) := by
    refine ⟨_, rfl, ?_, (Below.refl _ v0).alloc (Nat.le_refl _) _, by simp [hs0]⟩
    rw [← hs0]
    exact ⟨World.ownsMap_made v0 _ _ _, fun z => rfl, fun z h => by cases h⟩
  have HF0 := Lib.hid F0
  have a0 := (F0.2.1.cell (p := ⟨q, 0, none⟩) (by show q < v0.heap.size; omega)).trans e0
  have a1 := (F0.2.1.cell (p := ⟨q, 1, none⟩) (by show q < v0.heap.size; omega)).trans e1
  clear h3 h2 K hb0 hg hio F0
  go_enter Try.func35, Try.ntmps35
  go_wp2_with fail
  go_loopg [10] G.nodes.length (fun g s10 wr => ∃ (j : Nat) (D : DataW Value), j + g = G.nodes.length ∧ s10 = .int .i64 j ∧ Aside (Lf w G wr (q + 1) j (Rt.hasB ((ids G).take j)) D) ∧ Aside (Below v0.heap.size v0 wr))
  case atStart => exact ⟨0, _, by omega, rfl, HF0.out.1, HF0.out.2.1⟩
  case round =>
    obtain ⟨j, D, hj, rfl, hL, HB⟩ := hrel
    have hbw : Below w.heap.size w wr := by rw [hq]; exact HB0.out.trans (HB.out.mono (by omega))
    cases gk with
    | zero =>
      have : j = G.nodes.length := by omega
      subst this
      have HBW := Lib.hid hbw
      clear hbw
      go_wp2_with fail
      go_ret
      refine ⟨q + 1, D, rfl, ?_, by omega, HBW.out⟩
      have := hL.out
      rwa [List.take_of_length_le (by rw [ids_length]; exact Nat.le_refl _)] at this
    | succ g =>
      obtain ⟨x, hx⟩ : ∃ x, G.nodes[j]? = some x := ⟨_, List.getElem?_eq_getElem (by omega)⟩
      obtain ⟨hxo, b, o, C, cc, rfl, hbl, c1, c2, hrd⟩ := H3.out j x hx
      have d1 := (hbw.cell (p := ⟨b, _, none⟩) hbl).trans c1
      have d2 := (hbw.cell (p := ⟨b, _, none⟩) hbl).trans c2
      have hlt : (j : Int) < G.nodes.length := by omega
      have hkey := keyOf_int_mk Try.underlying3 (Rt.i64_wf hxo)
      have HX : Aside (G.nodes[j]? = some x ∧ Rd w (.slice C x.out.length cc) x.out) := ⟨hx, hrd⟩
      have hsz := HB.out.size
      clear hx c1 c2 hxo hbw hrd
      go_wp2_with (at_mapUpdate; refine wpList_mapUpdate_in _ rfl _ _ _ 50 rfl 3 23 Try.lawIntG Try.underlying50 heldR (q + 1) j D rfl (hL.out.own.alloc _) (by unfold maxLen; omega) _ _ _ rfl rfl hkey _ [] rfl ?_; intro w1 hown1 hturn1; have T1 : Aside (Lf w G w1 (q + 1) (j + 1) (fun z => Rt.hasB ((ids G).take j) z || x.id == z) (D.put (Rt.ky x.id) (.held (.slice C x.out.length cc)))) := hL.out.put (List.mem_of_getElem? HX.out.1) HX.out.2 hown1; have B1 : Aside (Below v0.heap.size v0 w1) := (HB.out.alloc hsz _).grown hturn1.grown (by first | omega | (simp; omega)) (fun g hg => by simp only [Option.some.injEq] at hg; omega); clear hown1 hturn1 d1 d2)
      go_roundg g
      case measure => omega
      case rel =>
        refine ⟨j + 1, D.put (Rt.ky x.id) (.held (.slice C x.out.length cc)), by omega, by go_num, ?_, B1.out⟩
        have e : (fun z => Rt.hasB ((ids G).take j) z || x.id == z) = Rt.hasB ((ids G).take (j + 1)) := by
          funext z
          rw [take_ids HX.out.1]
          unfold Rt.hasB
          simp [List.any_append]
        have h := T1.out
        rw [e] at h
        exact h

set_option maxRecDepth 100000 in
set_option maxHeartbeats 1600000 in
theorem pright_any (G : Gp) (w : World) (gv : Value) (hg : GrAt w gv G) (hn : G.nodes.length ≤ 1000) :
    Calls Try.prog 30 #[gv] w fun e w' => e = .returned (.bool (rightB G)) ∧ Below w.heap.size w w' := by
  have hio := hg.ids_ok
  obtain ⟨A, cap, B, cb, rfl, h1, h2, h3⟩ := id hg
  obtain ⟨v0, q, hv0, hq, K, hb0, hs0⟩ := box_any w (.slice A G.nodes.length cap) (.slice B G.roots.length cb)
  have hg0 := hg.below (by rw [hq]; exact hb0 : Below w.heap.size w v0)
  have H3 := Lib.hid h3
  have H2 := Lib.hid h2
  have HG0 := Lib.hid hg0
  have e0 := K.cell (i := 0) rfl
  have e1 := K.cell (i := 1) rfl
  have HK := Lib.hid K
  have HB0 := Lib.hid hb0
  have HI := Lib.hid hio
  have cO := outs_any G v0 _ hg0 hn
  have hR : rightB G = (G.nodes.all (fun n => withinB n.out (ids G)) && (riseF (-1) (ids G) && riseF (-1) G.roots && withinB G.roots (ids G))) := rfl
  have HR := Lib.hid hR
  clear h3 h2 K hb0 hg hg0 hio hR
  go_enter Try.func30, Try.ntmps30
  go_wp2_with fail
  refine cO.mono ?_
  rintro e w1 ⟨m, D, rfl, hL, hm, hb1⟩
  have HL1 : Aside (Lf v0 G w1 m G.nodes.length (Rt.hasB (ids G)) D) := hL
  have HB1 : Aside (Below v0.heap.size v0 w1) := hb1
  clear hL hb1 cO e0 e1
  have k0 := (HK.out.below HB1.out (by omega)).cell (i := 0) rfl
  have k1 := (HK.out.below HB1.out (by omega)).cell (i := 1) rfl
  have cI := pids_any G w1 _ (HG0.out.below HB1.out) hn
  go_wp2_with fail
  refine cI.mono ?_
  rintro e w2 ⟨u, rfl, hu, hb2⟩
  have HB2 : Aside (Below v0.heap.size v0 w2) := below_more HB1.out hb2
  have HL2 : Aside (Lf v0 G w2 m G.nodes.length (Rt.hasB (ids G)) D) := HL1.out.below hb2
  have cS := prise_any (ids G) w2 u (Rd.row hu HI.out)
  clear hu hb2 cI k0 k1
  have k0 := (HK.out.below HB2.out (by omega)).cell (i := 0) rfl
  have k1 := (HK.out.below HB2.out (by omega)).cell (i := 1) rfl
  have hw2 : Below w.heap.size w w2 := by rw [hq]; exact HB0.out.trans (HB2.out.mono (by omega))
  have HW2 := Lib.hid hw2
  have cS2 := prise_any G.roots w2 _ (H2.out.below hw2)
  have cN : Calls Try.prog 38 #[.map (some m), .slice B G.roots.length cb] w2 fun e w' => e = .returned (.bool (withinB G.roots (ids G))) ∧ w2 = w' := nodes_any G.roots w2 _ HL2.out (H2.out.below hw2)
  have cM : ∀ (x : Nd) (C : Option Addr) (cc : Nat) (wr : World), Below w2.heap.size w2 wr → Rd w (.slice C x.out.length cc) x.out → Calls Try.prog 38 #[.map (some m), .slice C x.out.length cc] wr fun e w' => e = .returned (.bool (withinB x.out (ids G))) ∧ wr = w' := fun x C cc wr hb hr => nodes_any x.out wr _ (HL2.out.below hb) (hr.below (below_more hw2 hb))
  have CM := Lib.hid cM
  clear hw2 cM
  generalize riseF (-1) (ids G) = a1 at *
  generalize riseF (-1) G.roots = a2 at *
  generalize withinB G.roots (ids G) = a3 at *
  cases a1
  · go_wp2_with fail
    refine cS.mono ?_
    rintro e w3 ⟨rfl, rfl⟩
    go_wp2_with fail
    go_ret
    exact ⟨ret_bool (by rw [HR.out]; simp), HW2.out⟩
  cases a2
  · go_wp2_with fail
    refine cS.mono ?_
    rintro e w3 ⟨rfl, rfl⟩
    go_wp2_with fail
    refine cS2.mono ?_
    rintro e w3 ⟨rfl, rfl⟩
    go_wp2_with fail
    go_ret
    exact ⟨ret_bool (by rw [HR.out]; simp), HW2.out⟩
  cases a3
  · go_wp2_with fail
    refine cS.mono ?_
    rintro e w3 ⟨rfl, rfl⟩
    go_wp2_with fail
    refine cS2.mono ?_
    rintro e w3 ⟨rfl, rfl⟩
    go_wp2_with fail
    refine cN.mono ?_
    rintro e w3 ⟨rfl, rfl⟩
    go_wp2_with fail
    go_ret
    exact ⟨ret_bool (by rw [HR.out]; simp), HW2.out⟩
  go_wp2_with fail
  refine cS.mono ?_
  rintro e w3 ⟨rfl, rfl⟩
  go_wp2_with fail
  refine cS2.mono ?_
  rintro e w3 ⟨rfl, rfl⟩
  go_wp2_with fail
  refine cN.mono ?_
  rintro e w3 ⟨rfl, rfl⟩
  go_wp2_with fail
  clear cS cS2 cN k0 k1
  go_loopg [28] G.nodes.length (fun g s4 wr => ∃ (j : Nat), j + g = G.nodes.length ∧ s4 = .int .i64 j ∧ Aside ((G.nodes.drop j).all (fun n => withinB n.out (ids G)) = G.nodes.all (fun n => withinB n.out (ids G))) ∧ Aside (Below w2.heap.size w2 wr))
  case atStart => exact ⟨0, by omega, rfl, rfl, Below.refl _ _⟩
  case round =>
    obtain ⟨j, hj, rfl, hr, hF⟩ := hrel
    have hbw := below_more HW2.out hF.out
    cases gk with
    | zero =>
      have : j = G.nodes.length := by omega
      subst this
      have HE : Aside (true = rightB G) := by
        have := hr.out
        rw [List.drop_length] at this
        show _ = _
        rw [HR.out, ← this]
        rfl
      have HBW := Lib.hid hbw
      clear hr hbw
      go_wp2_with fail
      go_ret
      exact ⟨ret_bool HE.out, HBW.out⟩
    | succ g =>
      obtain ⟨x, hx⟩ : ∃ x, G.nodes[j]? = some x := ⟨_, List.getElem?_eq_getElem (by omega)⟩
      obtain ⟨hxo, b, o, C, cc, rfl, hbl, c1, c2, hrd⟩ := H3.out j x hx
      have d1 := (hbw.cell (p := ⟨b, _, none⟩) hbl).trans c1
      have d2 := (hbw.cell (p := ⟨b, _, none⟩) hbl).trans c2
      have hlt : (j : Int) < G.nodes.length := by omega
      have HT : Aside ((withinB x.out (ids G) && (G.nodes.drop (j + 1)).all (fun n => withinB n.out (ids G))) = G.nodes.all (fun n => withinB n.out (ids G))) := by
        have := hr.out
        rw [drop_nodes hx] at this
        exact this
      have HB3 : Aside (Below w2.heap.size w2 (wr.alloc (.cells #[.int .i64 x.id, .slice C x.out.length cc] 38))) := hF.out.alloc hF.out.size _
      have cN := CM.out x C cc _ HB3.out hrd
      clear hx c1 c2 hxo hbw hrd hr
      cases hb : withinB x.out (ids G)
      · rw [hb] at cN
        go_wp2_with (go_at_call 38; refine cN.mono ?_; rintro e w3 ⟨rfl, rfl⟩)
        go_ret
        exact ⟨ret_bool (by rw [HR.out, ← HT.out, hb]; rfl), below_more HW2.out HB3.out⟩
      · rw [hb] at cN
        go_wp2_with (go_at_call 38; refine cN.mono ?_; rintro e w3 ⟨rfl, rfl⟩)
        go_roundg g
        case measure => omega
        case rel => exact ⟨j + 1, by omega, by go_num, by show _ = _; rw [← HT.out, hb]; rfl, HB3.out⟩
end Gr
end Go.Proofs.Ytmnjbinmfbjbaaa
