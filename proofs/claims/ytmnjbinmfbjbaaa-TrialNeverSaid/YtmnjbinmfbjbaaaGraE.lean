/- The document's Reach. -/
import Derived.Test.YtmnjbinmfbjbaaaGraD
import Derived.Laws.MakeOwn
namespace Go.Proofs.Ytmnjbinmfbjbaaa
namespace Gr
open Go.RowKit Go.Maps

def reachA (G : Gp) (fr : List Int) : List Int := if rightB G then reachL G fr else []
def deadA (G : Gp) : List Int := if rightB G then deadL G else []
def countsA (G : Gp) : List Int := if rightB G then countsL G else []

/-! ### flags in memory -/
def bvals (f : List Bool) : List Value := f.map Value.bool
theorem bvals_at {f : List Bool} {i : Nat} {b : Bool} (h : f[i]? = some b) : (bvals f)[i]? = some (.bool b) := by simp [bvals, h]
theorem bvals_set (f : List Bool) (i : Nat) (b : Bool) : (bvals f).set i (.bool b) = bvals (f.set i b) := by simp [bvals, List.map_set]
theorem bool_at {f : List Bool} {i : Nat} (h : i < f.length) : ∃ b, f[i]? = some b ∧ f.getD i false = b := ⟨f[i], List.getElem?_eq_getElem h, by simp [List.getD, h]⟩
set_option maxRecDepth 100000 in
theorem Try.infoBool : ∃ i, Try.prog.info? 4 = some i ∧ i.zero = some (.bool false) ∧ i.size = 1 ∧ i.bytes = 1 := ⟨_, rfl, by kernel_rfl, by kernel_rfl, by kernel_rfl⟩
theorem run_flags (w : World) (n : Nat) (h : n ≤ 65536) :
    (Instr.makeSlice 48 (.int .i64 n) (.int .i64 n)).run Try.prog w = .ok (.slice (some ⟨w.heap.size, 0, none⟩) n n) (w.alloc (.cells (madeCells #[Value.bool false] n) 4)) := by
  obtain ⟨i, h1, h2, h3, h4⟩ := Try.infoBool
  have := run_make (P := Try.prog) w 48 4 i (.bool false) Try.underlying48 h1 h2 .i64 .i64 n n (by omega) (Int.le_refl _) (by rw [h4]; omega) (by omega)
  rw [h3, Int.toNat_natCast, Nat.mul_one] at this
  exact this
theorem madeB (n : Nat) : (madeCells #[Value.bool false] n).toList = bvals (List.replicate n false) := by
  apply List.ext_getElem
  · simp [madeCells, bvals]
  · intro i h1 h2
    simp [madeCells, Nat.mod_one, bvals]

theorem fill_set {G : Gp} {fr : List Int} {j : Nat} {n : Nd} (h : G.nodes[j]? = some n) :
    ((is0 G fr).take j ++ List.replicate (G.nodes.length - j) false).set j (Rt.hasB fr n.id) = (is0 G fr).take (j + 1) ++ List.replicate (G.nodes.length - (j + 1)) false := by
  have hj : j < G.nodes.length := (List.getElem?_eq_some_iff.1 h).1
  have hl : (is0 G fr).length = G.nodes.length := is0_len fr
  have h1 : (is0 G fr)[j]? = some (Rt.hasB fr n.id) := by
    unfold is0
    rw [List.getElem?_map, ids_at h]; rfl
  obtain ⟨hj2, he⟩ := List.getElem?_eq_some_iff.1 h1
  have e : G.nodes.length - j = (G.nodes.length - (j + 1)) + 1 := by omega
  rw [List.take_succ_eq_append_getElem hj2, he, e, List.replicate_succ, List.set_append_right _ _ (by simp; omega)]
  have : j - (List.take j (is0 G fr)).length = 0 := by simp; omega
  rw [this]
  simp
theorem sel_take : ∀ (l : List Int) (f : List Bool) (j : Nat) (x : Int) (b : Bool), l[j]? = some x → f[j]? = some b → sel (l.take (j + 1)) (f.take (j + 1)) = sel (l.take j) (f.take j) ++ (if b then [x] else [])
  | y :: r, c :: s, 0, x, b, h1, h2 => by
    simp at h1 h2
    subst h1 h2
    show sel (y :: List.take 0 r) (c :: List.take 0 s) = _
    rw [sel_cons]
    simp [sel]
  | y :: r, c :: s, j + 1, x, b, h1, h2 => by
    have ih := sel_take r s j x b (by simpa using h1) (by simpa using h2)
    show sel (y :: List.take (j + 1) r) (c :: List.take (j + 1) s) = sel (y :: List.take j r) (c :: List.take j s) ++ _
    rw [sel_cons, sel_cons, ih]
    cases c <;> simp

/-- The flags f in block m, behind a world. -/
structure Fg (v wr : World) (m : Nat) (f : List Bool) : Prop where
  blk : Blk wr m 4 (bvals f)
  below : Below v.heap.size v wr
  lo : v.heap.size ≤ m
section
variable {v wr : World} {m : Nat} {f : List Bool}
theorem Fg.drewN (h : Fg v wr m f) (n : Nat) : Fg v (wr.drewN n) m f := ⟨h.blk.drewN n, below_drewN h.below n, h.lo⟩
theorem Fg.set (h : Fg v wr m f) (i : Nat) (b : Bool) : Fg v (wr.setCell ⟨m, i, none⟩ (.bool b)) m (f.set i b) := by
  refine ⟨by rw [← bvals_set]; exact h.blk.set i _, ?_, h.lo⟩
  exact h.below.setCell h.lo _
theorem Fg.more {wr' : World} (h : Fg v wr m f) (hb : Below (m + 1) wr wr') : Fg v wr' m f :=
  ⟨h.blk.below hb (by omega), h.below.trans (hb.mono (by have := h.lo; omega)), h.lo⟩
end

set_option maxRecDepth 100000 in
set_option maxHeartbeats 3200000 in
theorem rreach_any (G : Gp) (fr : List Int) (w : World) (gv fv : Value) (hg : GrAt w gv G) (hf : Rd w fv fr) (hn : G.nodes.length ≤ 1000) :
    Calls Try.prog 18 #[gv, fv] w fun e w' => ∃ u, e = .returned u ∧ w'.ownsRow w.heap.size 3 1 u (reachA G fr).length (vals (reachA G fr)) ∧ Below w.heap.size w w' := by
  obtain ⟨A, cap, B, cb, rfl, h1, h2, h3⟩ := id hg
  obtain ⟨v0, q, hv0, hq, K, hb0, hs0⟩ := box_any w (.slice A G.nodes.length cap) (.slice B G.roots.length cb)
  have hg0 := hg.below (by rw [hq]; exact hb0 : Below w.heap.size w v0)
  have H3 := Lib.hid h3
  have HF := Lib.hid hf
  have e0 := K.cell (i := 0) rfl
  have e1 := K.cell (i := 1) rfl
  have HK := Lib.hid K
  have HB0 := Lib.hid hb0
  have cR := rright_any G v0 _ hg0 (by omega)
  clear h3 h2 K hb0 hg hf
  cases hr : rightB G
  · rw [hr] at cR
    have HA : Aside (reachA G fr = []) := by show _ = _; simp [reachA, hr]
    clear hr
    go_enter Try.func18, Try.ntmps18
    go_wp2_with fail
    refine cR.mono ?_
    rintro e w1 ⟨rfl, hb1⟩
    have HB1 : Aside (Below v0.heap.size v0 w1) := hb1
    clear hb1 cR e0 e1
    go_wp2_with fail
    go_ret
    exact ⟨_, rfl, by rw [HA.out]; exact World.ownsRow_nil _ _ _ _, by rw [hq]; exact HB0.out.trans (HB1.out.mono (by omega))⟩
  · rw [hr] at cR
    have HA : Aside (reachA G fr = reachL G fr) := by show _ = _; simp [reachA, hr]
    clear hr
    go_enter Try.func18, Try.ntmps18
    go_wp2_with fail
    refine cR.mono ?_
    rintro e w1 ⟨rfl, hb1⟩
    have HB1 : Aside (Below v0.heap.size v0 w1) := hb1
    clear hb1 cR e0 e1
    have k0 := (HK.out.below HB1.out (by omega)).cell (i := 0) rfl
    have k1 := (HK.out.below HB1.out (by omega)).cell (i := 1) rfl
    have hmk := run_flags w1 G.nodes.length (by omega)
    have hw1 : Below w.heap.size w w1 := by rw [hq]; exact HB0.out.trans (HB1.out.mono (by omega))
    obtain ⟨v2, hv2, m, hm, F0⟩ : ∃ v2, w1.alloc (.cells (madeCells #[Value.bool false] G.nodes.length) 4) = v2 ∧ ∃ m, w1.heap.size = m ∧ Fg w1 v2 m (List.replicate G.nodes.length false) :=
      ⟨_, rfl, _, rfl, by have := Blk.new w1 (madeCells #[Value.bool false] G.nodes.length) 4; rwa [madeB] at this, (Below.refl _ w1).alloc (Nat.le_refl _) _, Nat.le_refl _⟩
    have HW1 := Lib.hid hw1
    have HF0 := Lib.hid F0
    have hqm : q < m := by have := hw1.size; have := HB1.out.size; omega
    have keep : ∀ (wr : World) (f : List Bool), Fg w1 wr m f → wr.cell? ⟨q, 0, none⟩ = some (.slice A G.nodes.length cap) ∧ wr.cell? ⟨q, 1, none⟩ = some (.slice B G.roots.length cb) ∧ Below w.heap.size w wr := fun wr f h =>
      ⟨(h.below.cell (p := ⟨q, 0, none⟩) (by show q < w1.heap.size; omega)).trans k0, (h.below.cell (p := ⟨q, 1, none⟩) (by show q < w1.heap.size; omega)).trans k1, below_more hw1 h.below⟩
    have KP := Lib.hid keep
    clear hw1 F0 keep
    go_wp2_with fail
    clear hmk k0 k1
    go_loopg [7] G.nodes.length (fun g s7 wr => ∃ (j : Nat), j + g = G.nodes.length ∧ s7 = .int .i64 j ∧ Aside (Fg w1 wr m ((is0 G fr).take j ++ List.replicate (G.nodes.length - j) false)))
    case atStart => exact ⟨0, by omega, rfl, by show Fg _ _ _ _; simpa using HF0.out⟩
    case round =>
      obtain ⟨j, hj, rfl, hF⟩ := hrel
      obtain ⟨k0, k1, hbw⟩ := KP.out _ _ hF.out
      cases gk with
      | succ g =>
        obtain ⟨x, hx⟩ : ∃ x, G.nodes[j]? = some x := ⟨_, List.getElem?_eq_getElem (by omega)⟩
        obtain ⟨hxo, b, o, C, cc, rfl, hbl, c1, c2, hrd⟩ := H3.out j x hx
        have d1 := (hbw.cell (p := ⟨b, _, none⟩) hbl).trans c1
        have d2 := (hbw.cell (p := ⟨b, _, none⟩) hbl).trans c2
        have hlt : (j : Int) < G.nodes.length := by omega
        have cH := has_any fr x.id wr fv (HF.out.below hbw)
        have HS : Aside (Fg w1 (wr.setCell ⟨m, j, none⟩ (.bool (Rt.hasB fr x.id))) m ((is0 G fr).take (j + 1) ++ List.replicate (G.nodes.length - (j + 1)) false)) := by show Fg _ _ _ _; rw [← fill_set hx]; exact hF.out.set j _
        obtain ⟨b0, hb0, _⟩ := bool_at (f := (is0 G fr).take j ++ List.replicate (G.nodes.length - j) false) (i := j) (by simp [is0_len]; omega)
        have f0 := hF.out.blk.cell (bvals_at hb0)
        have f1 := hF.out.blk.free j
        clear c1 c2 hx hxo hrd hb0 hbw hF
        go_wp2_with (go_at_call 17; refine cH.mono ?_; rintro e w2 ⟨rfl, rfl⟩)
        go_roundg g
        case measure => omega
        case rel => exact ⟨j + 1, by omega, by go_num, HS.out⟩
      | zero =>
        have : j = G.nodes.length := by omega
        subst this
        have hF1 : Aside (Fg w1 wr m (is0 G fr)) := by
          show Fg _ _ _ _
          have := hF.out
          rw [List.take_of_length_le (by rw [is0_len]; exact Nat.le_refl _), Nat.sub_self] at this
          simpa using this
        clear hF hbw
        go_wp2_with fail
        clear k0 k1
        go_loopg [8] G.nodes.length (fun g s8 wx => ∃ (p : Nat), p + g = G.nodes.length ∧ s8 = .int .i64 p ∧ Aside (Fg w1 wx m (rowN G (is0 G fr) p)))
        case atStart => exact ⟨0, by omega, rfl, hF1.out⟩
        case round =>
          obtain ⟨p, hp, rfl, hF⟩ := hrel
          obtain ⟨k0, k1, hbw⟩ := KP.out _ _ hF.out
          clear hF1
          cases gk with
          | succ g =>
            have hlt : (p : Int) < G.nodes.length := by omega
            clear hbw
            go_wp2_with fail
            clear k0 k1
            rename_i wp
            go_loopg [9] G.nodes.length (fun g s9 wx => ∃ (i : Nat), i + g = G.nodes.length ∧ s9 = .int .i64 i ∧ Aside (Fg w1 wx m (rowI G (rowN G (is0 G fr) p) i)))
            case atStart => exact ⟨0, by omega, rfl, hF.out⟩
            case round =>
              obtain ⟨i, hi, rfl, hFi⟩ := hrel
              obtain ⟨k0, k1, hbw⟩ := KP.out _ _ hFi.out
              cases gk with
              | zero =>
                have : i = G.nodes.length := by omega
                subst this
                have HS : Aside (Fg w1 wr m (rowN G (is0 G fr) (p + 1))) := hFi.out
                clear hF hFi hbw
                go_wp2_with fail
                go_roundg g
                case measure => omega
                case rel => exact ⟨p + 1, by omega, by go_num, HS.out⟩
              | succ gi =>
                obtain ⟨x, hx⟩ : ∃ x, G.nodes[i]? = some x := ⟨_, List.getElem?_eq_getElem (by omega)⟩
                obtain ⟨hxo, b, o, C, cc, rfl, hbl, c1, c2, hrd⟩ := H3.out i x hx
                have hlt : (i : Int) < G.nodes.length := by omega
                have HC : Aside (w.cell? ⟨b, o + i * 2, none⟩ = some (.int .i64 x.id) ∧ w.cell? ⟨b, o + i * 2 + 1, none⟩ = some (.slice C x.out.length cc) ∧ Rd w (.slice C x.out.length cc) x.out ∧ G.nodes[i]? = some x) := ⟨c1, c2, hrd, hx⟩
                clear hbw hF c1 c2 hrd hx
                go_wp2_with fail
                clear k0 k1
                go_loopg [10] G.nodes.length (fun g s10 wx => ∃ (k : Nat), k + g = G.nodes.length ∧ s10 = .int .i64 k ∧ Aside (Fg w1 wx m (rowK G (rowI G (rowN G (is0 G fr) p) i) i k)))
                case atStart => exact ⟨0, by omega, rfl, hFi.out⟩
                case round =>
                  obtain ⟨k, hk, rfl, hFk⟩ := hrel
                  obtain ⟨k0, k1, hbw⟩ := KP.out _ _ hFk.out
                  clear hFi
                  cases gk with
                  | zero =>
                    have : k = G.nodes.length := by omega
                    subst this
                    have HS : Aside (Fg w1 wr m (rowI G (rowN G (is0 G fr) p) (i + 1))) := hFk.out
                    clear hFk hbw
                    go_wp2_with fail
                    go_roundg gi
                    case measure => omega
                    case rel => exact ⟨i + 1, by omega, by go_num, HS.out⟩
                  | succ gk =>
                    obtain ⟨y, hy⟩ : ∃ y, G.nodes[k]? = some y := ⟨_, List.getElem?_eq_getElem (by omega)⟩
                    obtain ⟨_, b', o', C', cc', e', _, a1, a2, _⟩ := H3.out k y hy
                    simp only [Option.some.injEq, Addr.mk.injEq, and_true] at e'
                    obtain ⟨rfl, rfl⟩ := e'
                    obtain ⟨c1, c2, hrd, hx⟩ := HC.out
                    have hlk : (k : Int) < G.nodes.length := by omega
                    have d1 := (hbw.cell (p := ⟨b, _, none⟩) hbl).trans c2
                    have d2 := (hbw.cell (p := ⟨b, _, none⟩) hbl).trans a1
                    have cH : ∀ n, Calls Try.prog 17 #[.slice C x.out.length cc, .int .i64 y.id] (wr.drewN n) fun e w' => e = .returned (.bool (Rt.hasB x.out y.id)) ∧ wr.drewN n = w' := fun n => has_any x.out y.id _ _ (hrd.below (below_drewN hbw n))
                    have hlen : (rowK G (rowI G (rowN G (is0 G fr) p) i) i k).length = G.nodes.length := by
                      rw [← (rowK_le _ i k).length, ← (rowI_le _ i).length, rowN_len, is0_len]
                    obtain ⟨fi, hfi, hfi'⟩ := bool_at (f := rowK G (rowI G (rowN G (is0 G fr) p) i) i k) (i := i) (by omega)
                    obtain ⟨fk, hfk, hfk'⟩ := bool_at (f := rowK G (rowI G (rowN G (is0 G fr) p) i) i k) (i := k) (by omega)
                    have f0 := hFk.out.blk.cell (bvals_at hfi)
                    have f1 := hFk.out.blk.cell (bvals_at hfk)
                    have f2 := hFk.out.blk.free k
                    have HS : Aside (∀ n, Fg w1 ((wr.drewN n).setCell ⟨m, k, none⟩ (.bool (fk || (fi && Rt.hasB x.out y.id)))) m (rowK G (rowI G (rowN G (is0 G fr) p) i) i (k + 1))) := by
                      intro n
                      have h := (hFk.out.drewN n).set k (fk || (fi && Rt.hasB x.out y.id))
                      have e : rowK G (rowI G (rowN G (is0 G fr) p) i) i (k + 1) = (rowK G (rowI G (rowN G (is0 G fr) p) i) i k).set k (fk || (fi && Rt.hasB x.out y.id)) := by
                        show upd G _ i k = _
                        unfold upd
                        rw [hfi', hfk', outAt_is hx, idAt_is hy]
                      rw [e]
                      exact h
                    clear hy a1 a2 c1 c2 hrd hx hbw hFk hlen hfi hfi' hfk hfk' hxo
                    generalize Rt.hasB x.out y.id = hv at *
                    cases fi <;> cases fk <;> (go_wp2_with fail; go_quiet ((go_at_call 17; exact quiet_left (cH _))); go_wp2_with fail; go_roundg gk; (case measure => omega); (case rel => exact ⟨k + 1, by omega, by go_num, by show Fg _ _ _ _; have := HS.out nq; simpa using this⟩))
          | zero =>
            have : p = G.nodes.length := by omega
            subst this
            have hF2 : Aside (Fg w1 wr m (fin G fr)) := hF.out
            clear hF hbw
            go_wp2_with fail
            clear k0 k1
            go_loopg [12, 13] G.nodes.length (fun g s12 s13 wx => ∃ (j : Nat) (L : List Int), j + g = G.nodes.length ∧ s13 = .int .i64 j ∧ Aside (L = sel ((ids G).take j) ((fin G fr).take j)) ∧ L.length ≤ j ∧ Aside (wx.ownsRow (m + 1) 3 1 s12 L.length (vals L)) ∧ Aside (Fg w1 wx m (fin G fr)) ∧ Aside (m + 1 ≤ wx.heap.size))
            case atStart => exact ⟨0, [], by omega, rfl, rfl, by simp, World.ownsRow_nil _ _ _ _, hF2.out, hF2.out.blk.lt⟩
            case round =>
              obtain ⟨j, L, hj, rfl, hL, hlen, ho, hF, hsz⟩ := hrel
              obtain ⟨k0, k1, hbw⟩ := KP.out _ _ hF.out
              clear hF2
              cases gk with
              | zero =>
                have : j = G.nodes.length := by omega
                subst this
                have HL : Aside (L = reachA G fr) := by
                  show _ = _
                  rw [hL.out, HA.out, List.take_of_length_le (by rw [ids_length]; exact Nat.le_refl _), List.take_of_length_le (by rw [fin_len]; exact Nat.le_refl _)]
                  rfl
                have HBW := Lib.hid hbw
                have HWm : Aside (w.heap.size ≤ m) := by have := HW1.out.size; show _ ≤ _; omega
                clear hL hbw
                go_wp2_with fail
                go_ret
                exact ⟨_, rfl, by rw [← HL.out]; exact row_low ho.out (by have := HWm.out; omega), HBW.out⟩
              | succ g =>
                obtain ⟨x, hx⟩ : ∃ x, G.nodes[j]? = some x := ⟨_, List.getElem?_eq_getElem (by omega)⟩
                obtain ⟨hxo, b, o, C, cc, rfl, hbl, c1, c2, hrd⟩ := H3.out j x hx
                have hlt : (j : Int) < G.nodes.length := by omega
                have d1 := (hbw.cell (p := ⟨b, _, none⟩) hbl).trans c1
                obtain ⟨fj, hfj, _⟩ := bool_at (f := fin G fr) (i := j) (by rw [fin_len]; omega)
                have f0 := hF.out.blk.cell (bvals_at hfj)
                have HT : Aside (sel ((ids G).take (j + 1)) ((fin G fr).take (j + 1)) = L ++ (if fj then [x.id] else [])) := by
                  show _ = _
                  rw [sel_take _ _ j x.id fj (ids_at hx) hfj, hL.out]
                have hsz' := hsz.out
                clear hx hxo c1 c2 hrd hfj hL hbw
                cases fj
                · go_wp2_with fail
                  go_roundg g
                  case measure => omega
                  case rel => exact ⟨j + 1, L, by omega, by go_num, by show _ = _; rw [HT.out]; simp, by omega, ho.out, hF.out, hsz.out⟩
                · go_wp2_with (at_builtin; refine wpList_append_i _ rfl _ _ rfl (m + 1) _ L rfl (ho.out.alloc _) _ 1 x.id rfl (one_int_at _ _) (by omega) (by first | omega | (simp; omega)) ?_; intro v1 w2 hown1 hb1; have O1 : Aside (w2.ownsRow (m + 1) 3 1 v1 (L ++ [x.id]).length (vals (L ++ [x.id]))) := hown1; have B1 : Aside (Below (m + 1) wr w2) := ((Below.refl (m + 1) wr).alloc hsz' _).trans hb1; clear hown1 hb1 d1 k0 k1 f0)
                  go_roundg g
                  case measure => omega
                  case rel => exact ⟨j + 1, L ++ [x.id], by omega, by go_num, by show _ = _; rw [HT.out]; simp, by simp; omega, O1.out, hF.out.more B1.out, Nat.le_trans hsz' B1.out.size⟩
end Gr
end Go.Proofs.Ytmnjbinmfbjbaaa
