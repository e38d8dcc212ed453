/- ProxyOnce as a call: the loops. -/
import Derived.Test.YtdconkggghmgkaaPrxL
import Derived.BigRegion
import Derived.Deep.RegionHeld3
import Derived.StillTailTactics
import Derived.Deep.DeepCutAuto
namespace Go.Proofs.Ytdconkggghmgkaa
namespace Px
open Go.RowKit

section
variable {PT : World → Nat → List En → Prop} (hP : PrxOk PT)
include hP
theorem S15.putn {w W : World} {b : Nat} {va ve vg : Value} {xs : List Pact} {h : List Hr} {l : List En} {q1 q2 : Nat} {y : Pact} {X Y E : Int} {k g cap n : Nat} {r r' : Hr} (hn : n = h.length) (s : S15 PT w W b va ve vg (.slice (some ⟨g, 0, none⟩) n cap) xs h l q1 q2 y X Y E) (hr : h[k]? = some r) (hr' : r' = { r with s := r'.s }) :
    S15 PT w (W.setCell ⟨g, k, none⟩ (.int .i64 r'.s)) b va ve vg (.slice (some ⟨g, 0, none⟩) n cap) xs (h.set k r') l q1 q2 y X Y E := by
  subst hn
  have h1 := s.put hP hr hr'
  rwa [List.length_set] at h1
set_option maxRecDepth 100000 in
set_option maxHeartbeats 25600000 in
theorem ponce_any (A : Option Addr) (cap : Nat) (L : List Pact) (w : World) (hL : PactReads w A L) :
    Calls Try.prog 4 #[.slice A L.length cap] w fun e w' => e = .returned (.bool true) ∧ Below w.heap.size w w' := by
  by_cases h100 : 100 < L.length
  · have h' : (100 : Int) < L.length := by omega
    clear hL
    go_enter Try.func4, Try.ntmps4
    go_wp2_with fail
    refine (alive15_any hP w).mono ?_
    rintro e w1 ⟨rfl, hb⟩
    have HB := Lib.hid hb
    clear hb
    go_wp2_with fail
    go_ret
    exact ⟨rfl, HB.out⟩
  have h' : ¬ (100 : Int) < L.length := by omega
  have HACT := Lib.hid hL
  have HLEN := Lib.hid (show L.length ≤ 100 from by omega)
  obtain ⟨iI, hI0, hI1, hI2, hI3⟩ := info_parts Try.infoInt
  obtain ⟨iA, hA0, hA1, hA2, hA3⟩ := info_parts Try.infoAct
  clear hL h100
  go_enter Try.func4, Try.ntmps4
  go_wp2_with fail
  refine (pb_new hP w).mono ?_
  rintro e w1 ⟨b, rfl, h1⟩
  have H1 := Lib.hid h1
  clear h1
  go_wp2_with fail
  go_loopw [4, 5, 6, 7, 8] (fun va ve vg vs i wr => ∃ (k : Nat) (l : List En) (xs : List Pact) (h : List Hr), k ≤ L.length ∧ i = .int .i64 k ∧ h.length ≤ k ∧ Aside (PB PT w wr b l) ∧ Aside (R4 w.heap.size wr va ve vg vs xs h) ∧ Aside (∀ r ∈ h, Good l r)) (fun _ _ _ _ i _ => L.length - (RowKit.intOf i).toNat)
  case atStart => exact ⟨0, begL, [], [], by omega, rfl, by simp, H1.out, R4.nil _ _, fun r hr => by simp at hr⟩
  case round =>
    obtain ⟨k, l, xs, h, hk, rfl, hhk, hS, hR, hG⟩ := hrel
    clear H1
    by_cases hlt : k < L.length
    · obtain ⟨y, hy⟩ : ∃ y, L[k]? = some y := ⟨_, List.getElem?_eq_getElem hlt⟩
      obtain ⟨yok, g, off, rfl, hgl, hat⟩ := HACT.out k y hy
      obtain ⟨a0, a1, a2⟩ := hat.keep hgl hS.out.bl
      have hlt' : (k : Int) < L.length := by omega
      obtain ⟨hk0, hk1, hya, hyb⟩ := id yok
      obtain ⟨Aa, ca, hsh, _, hca⟩ := row_shape hR.out.a
      subst hsh
      obtain ⟨Ae, ce, hsh, _, hce⟩ := row_shape hR.out.e
      subst hsh
      obtain ⟨Ag, cg, hsh, _, hcg⟩ := row_shape hR.out.g
      subst hsh
      obtain ⟨As, cs, hsh, _, hcs⟩ := row_shape hR.out.s
      subst hsh
      obtain ⟨l', hl'⟩ : ∃ l', sdS l y = l' := ⟨_, rfl⟩
      obtain ⟨X, hX⟩ : ∃ X, sdA l y = X := ⟨_, rfl⟩
      obtain ⟨Y, hY⟩ : ∃ Y, sdB l y = Y := ⟨_, rfl⟩
      obtain ⟨E, hE⟩ : ∃ E, sdE l y = E := ⟨_, rfl⟩
      -- the act's box
      obtain ⟨w2, hw2⟩ : ∃ w2, wr.alloc (.cells #[.int .u8 y.k, .int .i64 y.a, .int .i64 y.b] 33) = w2 := ⟨_, rfl⟩
      obtain ⟨q1, hq1⟩ : ∃ q, wr.heap.size = q := ⟨_, rfl⟩
      have hb2 : Below wr.heap.size wr w2 := hw2 ▸ (Below.refl _ _).alloc (Nat.le_refl _) _
      have hK2 : Blk w2 q1 33 [.int .u8 y.k, .int .i64 y.a, .int .i64 y.b] := by rw [← hw2, ← hq1]; exact Blk.new wr _ _
      have h2 := hS.out.more hP hb2
      have r2 := hR.out.below hb2
      have HSD := said_any hP h2.pt h2.wf y yok
      rw [hl', hX, hY, hE] at HSD
      unfold Pact.val at HSD
      have HSD := Lib.hid HSD
      have c0 := hK2.cell (i := 0) rfl
      have c1 := hK2.cell (i := 1) rfl
      have c2 := hK2.cell (i := 2) rfl
      have hqb : q1 ∉ [b] := by
        have := hP.lt hS.out.pt
        simp
        omega
      have HWF := Lib.hid (show Wf l' from hl' ▸ hS.out.wf.sd y)
      have HUP := Lib.hid (show ∀ r ∈ h, Good l' (upR y E r) from fun r hr => by rw [← hl', ← hE]; exact (hG.out r hr).up hS.out.wf)
      have HOLD := Lib.hid (And.intro hS.out.wf hG.out)
      have H2 := Lib.hid (And.intro h2 (And.intro r2 hK2))
      have HLET := Lib.hid (And.intro hl' (And.intro hX (And.intro hY hE)))
      have HQB := Lib.hid hqb
      have HSZ := Lib.hid (And.intro hhk hlt)
      clear hy hat yok hS hR hG hl' hX hY hE hb2 hK2 h2 r2 hqb
      go_wp2_with fail
      refine HSD.out.mono ?_
      rintro e w3 ⟨rfl, hp3, ho3⟩
      have h3 := H2.out.1.step hp3 HWF.out ho3
      have r3 := H2.out.2.1.call hP H2.out.1.pt ho3
      have k3 := H2.out.2.2.only ho3 HQB.out
      obtain ⟨w4, hw4⟩ : ∃ w4, w3.alloc (.cells #[.int .i64 X, .int .i64 Y, .int .i64 E] 30) = w4 := ⟨_, rfl⟩
      obtain ⟨q2, hq2⟩ : ∃ q, w3.heap.size = q := ⟨_, rfl⟩
      have hb4 : Below w3.heap.size w3 w4 := hw4 ▸ (Below.refl _ _).alloc (Nat.le_refl _) _
      have hK4 : Blk w4 q2 30 [.int .i64 X, .int .i64 Y, .int .i64 E] := by rw [← hw4, ← hq2]; exact Blk.new w3 _ _
      have H4 := Lib.hid (show S15 PT w w4 b (.slice Aa xs.length ca) (.slice Ae h.length ce) (.slice Ag h.length cg) (.slice As h.length cs) xs h l' q1 q2 y X Y E from ⟨h3.more hP hb4, r3.below hb4, k3.below hb4 k3.lt, hK4⟩)
      clear hp3 ho3 h3 r3 k3 hb4 hK4 HSD H2 HQB c0 c1 c2 a0 a1 a2
      obtain ⟨n, hn⟩ : ∃ n, h.length = n := ⟨_, rfl⟩
      rw [hn] at H4 ⊢
      have HNN := Lib.hid hn
      have hn100 : n ≤ 100 := by have := HSZ.out; have := HLEN.out; omega
      clear hn
      go_wp2_with fail
      go_loopw [11] (fun c wr => ∃ (j : Nat) (hj : List Hr), j ≤ n ∧ c = .int .i64 j ∧ Aside (hj.length = n) ∧ Aside (hj = (h.take j).map (upR y E) ++ h.drop j) ∧ Aside (S15 PT w wr b (.slice Aa xs.length ca) (.slice Ae n ce) (.slice Ag n cg) (.slice As n cs) xs hj l' q1 q2 y X Y E)) (fun c _ => n - (RowKit.intOf c).toNat)
      case atStart => exact ⟨0, h, by omega, rfl, HNN.out, by show _ = _; simp, H4.out⟩
      case round =>
        obtain ⟨j, hj, hjn, rfl, hlen, hjE, hS⟩ := hrel
        clear H4
        by_cases hjl : j < n
        · obtain ⟨r, hr⟩ : ∃ r, h[j]? = some r := ⟨_, List.getElem?_eq_getElem (by have := HNN.out; omega)⟩
          obtain ⟨u1, u2⟩ := up_all hjE.out hr
          have hjl' : (j : Int) < n := by omega
          have re := hS.out.r4.e
          have rg := hS.out.r4.g
          have rs := hS.out.r4.s
          rw [hlen.out] at re rg rs
          obtain ⟨ge, rfl, hge, e0⟩ := row_int re (j := j) (x := r.e) (by rw [List.getElem?_map, u1]; rfl) hjl
          obtain ⟨gg, rfl, hgg, g0⟩ := row_int rg (j := j) (x := r.g) (by rw [List.getElem?_map, u1]; rfl) hjl
          obtain ⟨gs, rfl, hgs, s0⟩ := row_int rs (j := j) (x := r.s) (by rw [List.getElem?_map, u1]; rfl) hjl
          have c0 := hS.out.k1.cell (i := 0) rfl
          have c1 := hS.out.k1.cell (i := 1) rfl
          have c2 := hS.out.k1.cell (i := 2) rfl
          have z2 := hS.out.k2.cell (i := 2) rfl
          have HU := Lib.hid (And.intro u1 u2)
          have HS := Lib.hid hS.out
          have HJL := Lib.hid hlen.out
          have HJ := Lib.hid hjl
          -- behind what is only read
          have RD := Lib.hid (fun (W : World) (hW : S15 PT w W b (.slice Aa xs.length ca) (.slice (some ⟨ge, 0, none⟩) n ce) (.slice (some ⟨gg, 0, none⟩) n cg) (.slice (some ⟨gs, 0, none⟩) n cs) xs hj l' q1 q2 y X Y E) => show W.cell? ⟨ge, j, none⟩ = some (.int .i64 r.e) ∧ W.cell? ⟨gg, j, none⟩ = some (.int .i64 r.g) ∧ W.cell? ⟨gs, j, none⟩ = some (.int .i64 r.s) ∧ W.frozen? ⟨gs, j, none⟩ = false from by
            have re := hW.r4.e
            have rg := hW.r4.g
            have rs := hW.r4.s
            rw [HJL.out] at re rg rs
            have hf := rs.frozenAt j
            obtain ⟨_, e, _, e0⟩ := row_int re (j := j) (x := r.e) (by rw [List.getElem?_map, u1]; rfl) hjl
            obtain ⟨_, e', _, e1⟩ := row_int rg (j := j) (x := r.g) (by rw [List.getElem?_map, u1]; rfl) hjl
            obtain ⟨_, e'', _, e2⟩ := row_int rs (j := j) (x := r.s) (by rw [List.getElem?_map, u1]; rfl) hjl
            simp only [Option.some.injEq, Addr.mk.injEq, and_true] at e e' e''
            subst e e' e''
            exact ⟨e0, e1, e2, hf⟩)
          clear u1 u2 re rg rs hS hlen hjE hr hge hgg hgs
          as_aux_lemma =>
          by_cases k2 : y.k % 6 = 2
          · have k2b : (y.k % 6 == 2) = true := by simpa using k2
            have k4b : (y.k % 6 == 4) = false := by simp; omega
            by_cases pE : E = 0
            · have bE : (E == 0) = true := by simpa using pE
              by_cases pe : r.e = y.a
              · have be : (r.e == y.a) = true := by simpa using pe
                by_cases ps : r.s = 1
                · have bs : (r.s == 1) = true := by simpa using ps
                  have HSET := Lib.hid (show upR y E r = { r with s := 2 } from by unfold upR; rw [if_pos (by omega)])
                  clear k2 pE pe ps
                  go_wp2_with fail
                  go_quiet (fail)
                  have hW := HS.out.more hP (below_drewN (Below.refl _ _) nq)
                  generalize wr.drewN nq = W1 at *
                  clear e0 g0 s0 c0 c1 c2 z2
                  obtain ⟨e0, g0, s0, f0⟩ := RD.out W1 hW
                  have c0 := hW.k1.cell (i := 0) rfl
                  have c1 := hW.k1.cell (i := 1) rfl
                  have c2 := hW.k1.cell (i := 2) rfl
                  have z2 := hW.k2.cell (i := 2) rfl
                  have hW2 := hW.putn hP (r' := { r with s := 2 }) HJL.out.symm HU.out.1 rfl
                  have HW := Lib.hid hW2
                  clear hW HS
                  obtain ⟨W2, hW2e⟩ : ∃ W2, W1.setCell ⟨gs, j, none⟩ (.int .i64 2) = W2 := ⟨_, rfl⟩
                  have HW := Lib.hid (show S15 PT w W2 b (.slice Aa xs.length ca) (.slice (some ⟨ge, 0, none⟩) n ce) (.slice (some ⟨gg, 0, none⟩) n cg) (.slice (some ⟨gs, 0, none⟩) n cs) xs (hj.set j { r with s := 2 }) l' q1 q2 y X Y E from hW2e ▸ HW.out)
                  have d0 := HW.out.k1.cell (i := 0) rfl
                  have d1 := HW.out.k1.cell (i := 1) rfl
                  have d2 := HW.out.k1.cell (i := 2) rfl
                  have d3 := HW.out.k2.cell (i := 2) rfl
                  clear hW2
                  go_wp2_with fail
                  go_quiet (fail)
                  have HW2 := Lib.hid (HW.out.more hP (below_drewN (Below.refl _ _) nq))
                  go_wp2_with fail
                  go_roundw
                  case rel => exact ⟨j + 1, hj.set j { r with s := 2 }, by have := HJ.out; omega, by go_num, by show _ = _; rw [List.length_set]; exact HJL.out, by show _ = _; rw [← HU.out.2, HSET.out], HW2.out⟩
                  case measure => (have := HJ.out; simp [RowKit.intOf]; omega)
                · have bs : (r.s == 1) = false := by simpa using ps
                  have HSAME := Lib.hid (show upR y E r = r from by unfold upR; rw [if_neg (by omega), if_neg (by omega)])
                  clear k2 pE pe ps
                  go_wp2_with fail
                  go_quiet (fail)
                  have hW := HS.out.more hP (below_drewN (Below.refl _ _) nq)
                  generalize wr.drewN nq = W1 at *
                  clear e0 g0 s0 c0 c1 c2 z2
                  obtain ⟨e0, g0, s0, _⟩ := RD.out W1 hW
                  have c0 := hW.k1.cell (i := 0) rfl
                  have c1 := hW.k1.cell (i := 1) rfl
                  have c2 := hW.k1.cell (i := 2) rfl
                  have z2 := hW.k2.cell (i := 2) rfl
                  have HW := Lib.hid hW
                  clear hW HS
                  go_wp2_with fail
                  go_quiet (fail)
                  have HW2 := Lib.hid (HW.out.more hP (below_drewN (Below.refl _ _) nq))
                  go_wp2_with fail
                  go_roundw
                  case rel => exact ⟨j + 1, hj, by have := HJ.out; omega, by go_num, HJL.out, by show _ = _; rw [← HU.out.2, HSAME.out, set_same HU.out.1], HW2.out⟩
                  case measure => (have := HJ.out; simp [RowKit.intOf]; omega)
              · have be : (r.e == y.a) = false := by simpa using pe
                have HSAME := Lib.hid (show upR y E r = r from by unfold upR; rw [if_neg (by omega), if_neg (by omega)])
                clear k2 pE pe
                go_wp2_with fail
                go_quiet (fail)
                have hW := HS.out.more hP (below_drewN (Below.refl _ _) nq)
                generalize wr.drewN nq = W1 at *
                clear e0 g0 s0 c0 c1 c2 z2
                obtain ⟨e0, g0, s0, _⟩ := RD.out W1 hW
                have c0 := hW.k1.cell (i := 0) rfl
                have c1 := hW.k1.cell (i := 1) rfl
                have c2 := hW.k1.cell (i := 2) rfl
                have z2 := hW.k2.cell (i := 2) rfl
                have HW := Lib.hid hW
                clear hW HS
                go_wp2_with fail
                go_quiet (fail)
                have HW2 := Lib.hid (HW.out.more hP (below_drewN (Below.refl _ _) nq))
                go_wp2_with fail
                go_roundw
                case rel => exact ⟨j + 1, hj, by have := HJ.out; omega, by go_num, HJL.out, by show _ = _; rw [← HU.out.2, HSAME.out, set_same HU.out.1], HW2.out⟩
                case measure => (have := HJ.out; simp [RowKit.intOf]; omega)
            · have bE : (E == 0) = false := by simpa using pE
              have HSAME := Lib.hid (show upR y E r = r from by unfold upR; rw [if_neg (by omega), if_neg (by omega)])
              clear k2 pE
              go_wp2_with fail
              go_quiet (fail)
              have hW := HS.out.more hP (below_drewN (Below.refl _ _) nq)
              generalize wr.drewN nq = W1 at *
              clear e0 g0 s0 c0 c1 c2 z2
              obtain ⟨e0, g0, s0, _⟩ := RD.out W1 hW
              have c0 := hW.k1.cell (i := 0) rfl
              have c1 := hW.k1.cell (i := 1) rfl
              have c2 := hW.k1.cell (i := 2) rfl
              have z2 := hW.k2.cell (i := 2) rfl
              have HW := Lib.hid hW
              clear hW HS
              go_wp2_with fail
              go_quiet (fail)
              have HW2 := Lib.hid (HW.out.more hP (below_drewN (Below.refl _ _) nq))
              go_wp2_with fail
              go_roundw
              case rel => exact ⟨j + 1, hj, by have := HJ.out; omega, by go_num, HJL.out, by show _ = _; rw [← HU.out.2, HSAME.out, set_same HU.out.1], HW2.out⟩
              case measure => (have := HJ.out; simp [RowKit.intOf]; omega)
          · have k2b : (y.k % 6 == 2) = false := by simpa using k2
            by_cases k4 : y.k % 6 = 4
            · have k4b : (y.k % 6 == 4) = true := by simpa using k4
              by_cases pE : E = 0
              · have bE : (E == 0) = true := by simpa using pE
                by_cases pe : r.e = y.a
                · have be : (r.e == y.a) = true := by simpa using pe
                  by_cases pg : r.g = y.b
                  · have bg : (r.g == y.b) = true := by simpa using pg
                    have HSET := Lib.hid (show upR y E r = { r with s := 3 } from by unfold upR; rw [if_neg (by omega), if_pos (by omega)])
                    clear k2 k4 pE pe pg
                    go_wp2_with fail
                    go_quiet (fail)
                    have hW := HS.out.more hP (below_drewN (Below.refl _ _) nq)
                    generalize wr.drewN nq = W1 at *
                    clear e0 g0 s0 c0 c1 c2 z2
                    obtain ⟨e0, g0, s0, f0⟩ := RD.out W1 hW
                    have c0 := hW.k1.cell (i := 0) rfl
                    have c1 := hW.k1.cell (i := 1) rfl
                    have c2 := hW.k1.cell (i := 2) rfl
                    have z2 := hW.k2.cell (i := 2) rfl
                    have HW := Lib.hid hW
                    clear hW HS
                    go_wp2_with fail
                    go_quiet (fail)
                    have hW := HW.out.more hP (below_drewN (Below.refl _ _) nq)
                    generalize W1.drewN nq = W3 at *
                    clear e0 g0 s0 f0 c0 c1 c2 z2
                    obtain ⟨e0, g0, s0, f0⟩ := RD.out W3 hW
                    have HW2 := Lib.hid (hW.putn hP (r' := { r with s := 3 }) HJL.out.symm HU.out.1 rfl)
                    clear hW HW
                    go_wp2_with fail
                    go_roundw
                    case rel => exact ⟨j + 1, hj.set j { r with s := 3 }, by have := HJ.out; omega, by go_num, by show _ = _; rw [List.length_set]; exact HJL.out, by show _ = _; rw [← HU.out.2, HSET.out], HW2.out⟩
                    case measure => (have := HJ.out; simp [RowKit.intOf]; omega)
                  · have bg : (r.g == y.b) = false := by simpa using pg
                    have HSAME := Lib.hid (show upR y E r = r from by unfold upR; rw [if_neg (by omega), if_neg (by omega)])
                    clear k2 k4 pE pe pg
                    go_wp2_with fail
                    go_quiet (fail)
                    have hW := HS.out.more hP (below_drewN (Below.refl _ _) nq)
                    generalize wr.drewN nq = W1 at *
                    clear e0 g0 s0 c0 c1 c2 z2
                    obtain ⟨e0, g0, s0, _⟩ := RD.out W1 hW
                    have c0 := hW.k1.cell (i := 0) rfl
                    have c1 := hW.k1.cell (i := 1) rfl
                    have c2 := hW.k1.cell (i := 2) rfl
                    have z2 := hW.k2.cell (i := 2) rfl
                    have HW := Lib.hid hW
                    clear hW HS
                    go_wp2_with fail
                    go_quiet (fail)
                    have HW2 := Lib.hid (HW.out.more hP (below_drewN (Below.refl _ _) nq))
                    go_wp2_with fail
                    go_roundw
                    case rel => exact ⟨j + 1, hj, by have := HJ.out; omega, by go_num, HJL.out, by show _ = _; rw [← HU.out.2, HSAME.out, set_same HU.out.1], HW2.out⟩
                    case measure => (have := HJ.out; simp [RowKit.intOf]; omega)
                · have be : (r.e == y.a) = false := by simpa using pe
                  have HSAME := Lib.hid (show upR y E r = r from by unfold upR; rw [if_neg (by omega), if_neg (by omega)])
                  clear k2 k4 pE pe
                  go_wp2_with fail
                  go_quiet (fail)
                  have hW := HS.out.more hP (below_drewN (Below.refl _ _) nq)
                  generalize wr.drewN nq = W1 at *
                  clear e0 g0 s0 c0 c1 c2 z2
                  obtain ⟨e0, g0, s0, _⟩ := RD.out W1 hW
                  have c0 := hW.k1.cell (i := 0) rfl
                  have c1 := hW.k1.cell (i := 1) rfl
                  have c2 := hW.k1.cell (i := 2) rfl
                  have z2 := hW.k2.cell (i := 2) rfl
                  have HW := Lib.hid hW
                  clear hW HS
                  go_wp2_with fail
                  go_quiet (fail)
                  have HW2 := Lib.hid (HW.out.more hP (below_drewN (Below.refl _ _) nq))
                  go_wp2_with fail
                  go_roundw
                  case rel => exact ⟨j + 1, hj, by have := HJ.out; omega, by go_num, HJL.out, by show _ = _; rw [← HU.out.2, HSAME.out, set_same HU.out.1], HW2.out⟩
                  case measure => (have := HJ.out; simp [RowKit.intOf]; omega)
              · have bE : (E == 0) = false := by simpa using pE
                have HSAME := Lib.hid (show upR y E r = r from by unfold upR; rw [if_neg (by omega), if_neg (by omega)])
                clear k2 k4 pE
                go_wp2_with fail
                go_quiet (fail)
                have hW := HS.out.more hP (below_drewN (Below.refl _ _) nq)
                generalize wr.drewN nq = W1 at *
                clear e0 g0 s0 c0 c1 c2 z2
                obtain ⟨e0, g0, s0, _⟩ := RD.out W1 hW
                have c0 := hW.k1.cell (i := 0) rfl
                have c1 := hW.k1.cell (i := 1) rfl
                have c2 := hW.k1.cell (i := 2) rfl
                have z2 := hW.k2.cell (i := 2) rfl
                have HW := Lib.hid hW
                clear hW HS
                go_wp2_with fail
                go_quiet (fail)
                have HW2 := Lib.hid (HW.out.more hP (below_drewN (Below.refl _ _) nq))
                go_wp2_with fail
                go_roundw
                case rel => exact ⟨j + 1, hj, by have := HJ.out; omega, by go_num, HJL.out, by show _ = _; rw [← HU.out.2, HSAME.out, set_same HU.out.1], HW2.out⟩
                case measure => (have := HJ.out; simp [RowKit.intOf]; omega)
            · have k4b : (y.k % 6 == 4) = false := by simpa using k4
              have HSAME := Lib.hid (show upR y E r = r from by unfold upR; rw [if_neg (by omega), if_neg (by omega)])
              clear k2 k4
              go_wp2_with fail
              go_quiet (fail)
              have hW := HS.out.more hP (below_drewN (Below.refl _ _) nq)
              generalize wr.drewN nq = W1 at *
              clear e0 g0 s0 c0 c1 c2 z2
              obtain ⟨e0, g0, s0, _⟩ := RD.out W1 hW
              have c0 := hW.k1.cell (i := 0) rfl
              have c1 := hW.k1.cell (i := 1) rfl
              have c2 := hW.k1.cell (i := 2) rfl
              have z2 := hW.k2.cell (i := 2) rfl
              have HW := Lib.hid hW
              clear hW HS
              go_wp2_with fail
              go_quiet (fail)
              have HW2 := Lib.hid (HW.out.more hP (below_drewN (Below.refl _ _) nq))
              go_wp2_with fail
              go_roundw
              case rel => exact ⟨j + 1, hj, by have := HJ.out; omega, by go_num, HJL.out, by show _ = _; rw [← HU.out.2, HSAME.out, set_same HU.out.1], HW2.out⟩
              case measure => (have := HJ.out; simp [RowKit.intOf]; omega)
        · have hjl' : ¬ ((j : Int) < n) := by omega
          have HE0 : hj = h.map (upR y E) := by
            rw [hjE.out, List.take_of_length_le (by have := HNN.out; omega), List.drop_eq_nil_of_le (by have := HNN.out; omega), List.append_nil]
          have HA := Lib.hid (show ∀ r ∈ hj, Good l' r from fun r hr => by
            rw [HE0] at hr
            obtain ⟨r0, h0, rfl⟩ := List.mem_map.1 hr
            exact HUP.out r0 h0)
          have HHJ := Lib.hid HE0
          have c0 := hS.out.k1.cell (i := 0) rfl
          have z2 := hS.out.k2.cell (i := 2) rfl
          have HXL := Lib.hid (show xs.length = n by have := hS.out.r4.len; have := hlen.out; omega)
          have HS := Lib.hid hS.out
          have HHL := Lib.hid hlen.out
          clear hS hlen hjE hjl hjn HE0 HUP
          obtain ⟨BB, hBB⟩ : ∃ z, (decide (y.k % 6 < 2) && E == 0) = z := ⟨_, rfl⟩
          have HBB := Lib.hid hBB
          clear hBB
          go_upto_region 20 with fail
          go_cut [107] (fun s107 wx => s107 = .bool BB ∧ wx = wr)
          case first =>
            as_aux_lemma =>
              by_cases hk2 : y.k % 6 < 2
              · have hd : decide (y.k % 6 < 2) = true := by simpa using hk2
                have HX := Lib.hid (show BB = (E == 0) from by rw [← HBB.out, hd, Bool.true_and])
                clear hd
                go_wp2_with fail
                go_meet
                exact ⟨by rw [HX.out], rfl⟩
              · have hd : decide (y.k % 6 < 2) = false := by simpa using hk2
                have HX := Lib.hid (show BB = false from by rw [← HBB.out, hd, Bool.false_and])
                clear hd
                go_wp2_with fail
                go_meet
                exact ⟨by rw [HX.out], rfl⟩
          case rest =>
          obtain ⟨rfl, rfl⟩ := hcut
          go_upto_if 107 with fail
          go_cut [4, 5, 6, 7, 12] (fun s4 s5 s6 s7 s12 wx => ∃ (xs2 : List Pact) (h2 : List Hr) (Aa : Option Addr) (ca : Nat) (Ae : Option Addr) (ce : Nat) (Ag : Option Addr) (cg : Nat) (As : Option Addr) (cs : Nat), s4 = .slice Aa xs2.length ca ∧ s5 = .slice Ae h2.length ce ∧ s6 = .slice Ag h2.length cg ∧ s7 = .slice As h2.length cs ∧ h2.length ≤ 101 ∧ h2.length ≤ k + 1 ∧ PB PT w wx b l' ∧ R4 w.heap.size wx (.slice Aa xs2.length ca) (.slice Ae h2.length ce) (.slice Ag h2.length cg) (.slice As h2.length cs) xs2 h2 ∧ ∀ r ∈ h2, Good l' r)
          case first =>
            as_aux_lemma =>
            cases BB
            · have HM := Lib.hid (And.intro (show hj.length ≤ 101 by have := HHL.out; omega) (show hj.length ≤ k + 1 by have := HSZ.out; have := HNN.out; have := HHL.out; omega))
              have HR := HS.out.r4
              rw [← HHL.out] at HR
              have HR := Lib.hid HR
              go_wp2_with fail
              go_meet
              exact ⟨xs, hj, Aa, ca, Ae, ce, Ag, cg, As, cs, rfl, by rw [HHL.out], by rw [HHL.out], by rw [HHL.out], HM.out.1, HM.out.2, HS.out.pb, HR.out, HA.out⟩
            have kk : y.k % 6 < 2 ∧ E = 0 := by have := HBB.out; simpa using this
            obtain ⟨hk2, e0'⟩ := kk
            obtain ⟨GU, GF, GN⟩ := granted HOLD.out.1 HLET.out.1 HLET.out.2.1 HLET.out.2.2.2 hk2 e0'
            have HHH : hj = h := by
              rw [HHJ.out, List.map_congr_left (g := id) (fun r _ => GU r), List.map_id]
            have FR := show ∀ r ∈ hj, r.e = X → r.s = 3 ∧ r.g < gnZ l' X from fun r hr => GF r (HOLD.out.2 r (HHH ▸ hr))
            obtain ⟨G, hG⟩ : ∃ G, gnZ l' X = G := ⟨_, rfl⟩
            rw [hG] at GN FR
            have hXi := (GN.i64 HWF.out).1
            have HG := Lib.hid (fun (W : World) (hW : PB PT w W b l') => pb_gen hP hW X hXi hG)
            have FR := Lib.hid FR
            have GN := Lib.hid GN
            clear GU GF HHH hXi hG e0' hk2
            go_wp2_with fail
            go_loopw [12] (fun c wr => ∃ (j2 : Nat), j2 ≤ n ∧ c = .int .i64 j2 ∧ Aside (S15 PT w wr b (.slice Aa xs.length ca) (.slice Ae n ce) (.slice Ag n cg) (.slice As n cs) xs hj l' q1 q2 y X Y E)) (fun c _ => n - (RowKit.intOf c).toNat)
            case atStart => exact ⟨0, by omega, rfl, HS.out⟩
            case round =>
              obtain ⟨j2, hj2, rfl, hS⟩ := hrel
              clear HS c0 z2
              by_cases hjl : j2 < n
              case pos =>
                obtain ⟨r, hr⟩ : ∃ r, hj[j2]? = some r := ⟨_, List.getElem?_eq_getElem (by have := HHL.out; omega)⟩
                have hjl' : (j2 : Int) < n := by omega
                have re := hS.out.r4.e
                have rg := hS.out.r4.g
                have rs := hS.out.r4.s
                rw [HHL.out] at re rg rs
                obtain ⟨ge, rfl, hge, e0⟩ := row_int re (j := j2) (x := r.e) (by rw [List.getElem?_map, hr]; rfl) hjl
                obtain ⟨gg, rfl, hgg, g0⟩ := row_int rg (j := j2) (x := r.g) (by rw [List.getElem?_map, hr]; rfl) hjl
                obtain ⟨gs, rfl, hgs, s0⟩ := row_int rs (j := j2) (x := r.s) (by rw [List.getElem?_map, hr]; rfl) hjl
                have fr := FR.out r (List.mem_of_getElem? hr)
                have z0 := hS.out.k2.cell (i := 0) rfl
                have HS := Lib.hid hS.out
                have HJ := Lib.hid hjl
                have HR := Lib.hid hr
                clear re rg rs hS hr hge hgg hgs
                by_cases pe : r.e = X
                case pos =>
                  obtain ⟨s3, hlt3⟩ := fr pe
                  have bg : (r.g == G) = false := by simp; omega
                  have RD := Lib.hid (fun (W : World) (hW : S15 PT w W b (.slice Aa xs.length ca) (.slice (some ⟨ge, 0, none⟩) n ce) (.slice (some ⟨gg, 0, none⟩) n cg) (.slice (some ⟨gs, 0, none⟩) n cs) xs hj l' q1 q2 y X Y E) => show W.cell? ⟨ge, j2, none⟩ = some (.int .i64 X) ∧ W.cell? ⟨gg, j2, none⟩ = some (.int .i64 r.g) ∧ W.cell? ⟨gs, j2, none⟩ = some (.int .i64 3) ∧ W.cell? ⟨q2, 0, none⟩ = some (.int .i64 X) from by
                    have re := hW.r4.e
                    have rg := hW.r4.g
                    have rs := hW.r4.s
                    rw [HHL.out] at re rg rs
                    obtain ⟨_, e, _, e0⟩ := row_int re (j := j2) (x := r.e) (by rw [List.getElem?_map, HR.out]; rfl) HJ.out
                    obtain ⟨_, e', _, e1⟩ := row_int rg (j := j2) (x := r.g) (by rw [List.getElem?_map, HR.out]; rfl) HJ.out
                    obtain ⟨_, e'', _, e2⟩ := row_int rs (j := j2) (x := r.s) (by rw [List.getElem?_map, HR.out]; rfl) HJ.out
                    simp only [Option.some.injEq, Addr.mk.injEq, and_true] at e e' e''
                    subst e e' e''
                    exact ⟨pe ▸ e0, e1, s3 ▸ e2, hW.k2.cell (i := 0) rfl⟩)
                  have HD := Lib.hid (HS.out.more hP (Below.drew (Below.refl _ _)))
                  have m0 := RD.out _ HD.out
                  clear e0 g0 s0 z0 fr pe s3 hlt3 HS
                  go_wp2_with fail
                  go_region_held3 (fun W => W.cell? ⟨ge, j2, none⟩ = some (.int .i64 X) ∧ W.cell? ⟨gg, j2, none⟩ = some (.int .i64 r.g) ∧ W.cell? ⟨gs, j2, none⟩ = some (.int .i64 3) ∧ W.cell? ⟨q2, 0, none⟩ = some (.int .i64 X)) (first | exact m0 | exact m1)
                    (first
                      | (go_at_call 10; refine (HG.out _ HD.out.pb).mono ?_; rintro e w7 ⟨rfl, hb7, h7⟩; have H7 := Lib.hid (HD.out.more hP hb7); have m1 := RD.out _ H7.out; clear hb7 h7))
                  clear m0 m1 HD
                  go_wp2_with fail
                  go_roundw
                  case rel => exact ⟨j2 + 1, by have := HJ.out; omega, by go_num, H7.out⟩
                  case measure => (have := HJ.out; simp [RowKit.intOf]; omega)
                case neg =>
                  have be : (r.e == X) = false := by simpa using pe
                  clear fr pe
                  go_wp2_with fail
                  go_quiet (fail)
                  have H7 := Lib.hid (HS.out.more hP (below_drewN (Below.refl _ _) nq))
                  clear HS
                  go_wp2_with fail
                  go_roundw
                  case rel => exact ⟨j2 + 1, by have := HJ.out; omega, by go_num, H7.out⟩
                  case measure => (have := HJ.out; simp [RowKit.intOf]; omega)
              case neg =>
                have hjl' : ¬ ((j2 : Int) < n) := by omega
                have HQ := Lib.hid (S15.q4 hS.out)
                have HR4 := Lib.hid (And.intro hS.out.r4.len hS.out.r4.ab)
                have c0 := hS.out.k1.cell (i := 0) rfl
                have c1 := hS.out.k1.cell (i := 1) rfl
                have c2 := hS.out.k1.cell (i := 2) rfl
                clear hS hjl hj2 FR
                go_wp2_with (first
                  | (at_builtin; refine wpList_append_own_at _ rfl _ _ 22 rfl w.heap.size 33 iA (.agg #[.int .u8 0, .int .i64 0, .int .i64 0]) 3 24 Try.underlying22 hA0 hA1 hA2 hA3 rfl (by decide) _ _ _ rfl (HQ.out.a.alloc _) ⟨wr.heap.size, 0, none⟩ 1 1 y.cells rfl rfl (act_at wr y) (act_one y) (by have := HXL.out; unfold maxLen; omega) (by have := HXL.out; omega) (by have := HQ.out.pb.bl.size; simp; omega) ?_; intro v1 w5 hown1 hgrow1 _ _; have HQ1 := Lib.hid (HQ.out.pushA hP y hown1 hgrow1); have z0 := HQ1.out.k2.cell (i := 0) rfl; clear hown1 hgrow1 HQ c0 c1 c2)
                  | (at_builtin; refine wpList_append_own_at _ rfl _ _ 42 rfl w.heap.size 3 iI (.int .i64 0) 1 8 Try.underlying42 hI0 hI1 hI2 hI3 rfl (by decide) _ _ _ rfl (HQ1.out.e.alloc _) ⟨w5.heap.size, 0, none⟩ 1 1 [.int .i64 X] rfl rfl (int_at w5 X) (int_one X) (by have := HHL.out; simp only [List.length_map]; unfold maxLen; omega) (by have := HHL.out; simp only [List.length_map]; omega) (by have := HQ1.out.pb.bl.size; simp; omega) ?_; intro v2 w6 hown1 hgrow1 _ hat1; have HQ2 := Lib.hid (HQ1.out.pushE hP X hown1 hgrow1 hat1); clear z0; have z0 := HQ2.out.k2.cell (i := 0) rfl; clear hown1 hgrow1 hat1 HQ1)
                  | (go_at_call 10; refine (HG.out _ HQ2.out.pb).mono ?_; rintro e w7 ⟨rfl, hb7, h7⟩; have HQ3 := Lib.hid (HQ2.out.more hP hb7); clear hb7 h7 z0 HQ2)
                  | (at_builtin; refine wpList_append_own_at _ rfl _ _ 42 rfl w.heap.size 3 iI (.int .i64 0) 1 8 Try.underlying42 hI0 hI1 hI2 hI3 rfl (by decide) _ _ _ rfl (HQ3.out.g.alloc _) ⟨w7.heap.size, 0, none⟩ 1 1 [.int .i64 G] rfl rfl (int_at w7 G) (int_one G) (by have := HHL.out; simp only [List.length_map]; unfold maxLen; omega) (by have := HHL.out; simp only [List.length_map]; omega) (by have := HQ3.out.pb.bl.size; simp; omega) ?_; intro v3 w8 hown1 hgrow1 _ hat1; have HQ4 := Lib.hid (HQ3.out.pushG hP G hown1 hgrow1 hat1); clear hown1 hgrow1 hat1 HQ3)
                  | (at_builtin; refine wpList_append_own_at _ rfl _ _ 42 rfl w.heap.size 3 iI (.int .i64 0) 1 8 Try.underlying42 hI0 hI1 hI2 hI3 rfl (by decide) _ _ _ rfl (HQ4.out.s.alloc _) ⟨w8.heap.size, 0, none⟩ 1 1 [.int .i64 1] rfl rfl (int_at w8 1) (int_one 1) (by have := HHL.out; simp only [List.length_map]; unfold maxLen; omega) (by have := HHL.out; simp only [List.length_map]; omega) (by have := HQ4.out.pb.bl.size; simp; omega) ?_; intro v4 w9 hown1 hgrow1 _ hat1; have HQ5 := Lib.hid (HQ4.out.pushS hP 1 hown1 hgrow1 hat1); clear hown1 hgrow1 hat1 HQ4))
                have HDN := HQ5.out.done HR4.out.1 HR4.out.2
                obtain ⟨h2, hh2⟩ : ∃ z, hj ++ [⟨X, G, 1, y.a, y.b⟩] = z := ⟨_, rfl⟩
                rw [hh2] at HDN
                obtain ⟨Aa, ca, hsh, _, hca⟩ := row_shape HDN.a
                subst hsh
                obtain ⟨Ae, ce, hsh, _, hce⟩ := row_shape HDN.e
                subst hsh
                obtain ⟨Ag, cg, hsh, _, hcg⟩ := row_shape HDN.g
                subst hsh
                obtain ⟨As, cs, hsh, _, hcs⟩ := row_shape HDN.s
                subst hsh
                have hm : h2.length = n + 1 := by rw [← hh2, List.length_append, HHL.out]; rfl
                go_meet
                refine ⟨xs ++ [y], h2, Aa, ca, Ae, ce, Ag, cg, As, cs, rfl, rfl, rfl, rfl, by omega, by have := HSZ.out; have := HNN.out; omega, HQ5.out.pb, HDN, fun r hr => ?_⟩
                rw [← hh2] at hr
                rcases List.mem_append.1 hr with h | h
                · exact HA.out r h
                · rw [List.mem_singleton] at h
                  rw [h]
                  exact GN.out
          case rest =>
            clear HS HA HHL HHJ HOLD HXL HBB hca hce hcg hcs c0 z2
            as_aux_lemma =>
            obtain ⟨xs2, h2, Aa, ca, Ae, ce, Ag, cg, As, cs, rfl, rfl, rfl, rfl, hm101, hmk, c1', c2', c3'⟩ := hcut
            have HX2 := Lib.hid (show xs2.length = h2.length from c2'.len)
            have HC := Lib.hid (And.intro c1' (And.intro c2' c3'))
            clear c1' c2' c3' hn100
            go_wp2_with fail
            go_loopw [13] (fun c wr => ∃ (j3 : Nat), j3 ≤ h2.length ∧ c = .int .i64 j3 ∧ Aside (PB PT w wr b l') ∧ Aside (R4 w.heap.size wr (.slice Aa xs2.length ca) (.slice Ae h2.length ce) (.slice Ag h2.length cg) (.slice As h2.length cs) xs2 h2)) (fun c _ => h2.length - (RowKit.intOf c).toNat)
            case atStart => exact ⟨0, by omega, rfl, HC.out.1, HC.out.2.1⟩
            case round =>
              obtain ⟨j3, hj3, rfl, hS, hR⟩ := hrel
              by_cases hjm : j3 < h2.length
              · obtain ⟨r, hr⟩ : ∃ r, h2[j3]? = some r := ⟨_, List.getElem?_eq_getElem hjm⟩
                have hjm' : (j3 : Int) < h2.length := by omega
                have hjx' : (j3 : Int) < xs2.length := by have := HX2.out; omega
                obtain ⟨ge, rfl, hge, e0⟩ := row_int hR.out.e (j := j3) (x := r.e) (by rw [List.getElem?_map, hr]; rfl) hjm
                obtain ⟨gg, rfl, hgg, g0⟩ := row_int hR.out.g (j := j3) (x := r.g) (by rw [List.getElem?_map, hr]; rfl) hjm
                obtain ⟨gs, rfl, hgs, s0⟩ := row_int hR.out.s (j := j3) (x := r.s) (by rw [List.getElem?_map, hr]; rfl) hjm
                obtain ⟨p, hp, pa, pb⟩ := hR.out.ab j3 r hr
                obtain ⟨ga, rfl, hga, _⟩ := row_act hR.out.a hp (by have := HX2.out; omega)
                have RD := Lib.hid (fun (W : World) (hW : R4 w.heap.size W (.slice (some ⟨ga, 0, none⟩) xs2.length ca) (.slice (some ⟨ge, 0, none⟩) h2.length ce) (.slice (some ⟨gg, 0, none⟩) h2.length cg) (.slice (some ⟨gs, 0, none⟩) h2.length cs) xs2 h2) => show W.cell? ⟨ge, j3, none⟩ = some (.int .i64 r.e) ∧ W.cell? ⟨gg, j3, none⟩ = some (.int .i64 r.g) ∧ W.cell? ⟨gs, j3, none⟩ = some (.int .i64 r.s) ∧ W.cell? ⟨ga, j3 * 3 + 1, none⟩ = some (.int .i64 p.a) ∧ W.cell? ⟨ga, j3 * 3 + 2, none⟩ = some (.int .i64 p.b) from by
                  obtain ⟨_, e, _, e0⟩ := row_int hW.e (j := j3) (x := r.e) (by rw [List.getElem?_map, hr]; rfl) hjm
                  obtain ⟨_, e', _, e1⟩ := row_int hW.g (j := j3) (x := r.g) (by rw [List.getElem?_map, hr]; rfl) hjm
                  obtain ⟨_, e'', _, e2⟩ := row_int hW.s (j := j3) (x := r.s) (by rw [List.getElem?_map, hr]; rfl) hjm
                  obtain ⟨_, e3, _, _, a1, a2⟩ := row_act hW.a hp (by have := HX2.out; omega)
                  simp only [Option.some.injEq, Addr.mk.injEq, and_true] at e e' e'' e3
                  subst e e' e'' e3
                  exact ⟨e0, e1, e2, a1, a2⟩)
                obtain ⟨lk1, lk2, lk3, lks⟩ := (HC.out.2.2 r (List.mem_of_getElem? hr)).look
                obtain ⟨hi, hg⟩ := (HC.out.2.2 r (List.mem_of_getElem? hr)).i64 hS.out.wf
                have HD := Lib.hid (And.intro (hS.out.more hP (Below.drew (Below.refl _ _))) (hR.out.below (Below.drew (Below.refl _ _))))
                have HJ := Lib.hid hjm
                have m0 := RD.out _ HD.out.2
                have hpa : (p.a != p.a) = false := by simp
                have hpb : (p.b != p.b) = false := by simp
                obtain ⟨X3, hX3⟩ : ∃ X, lkA l' r.e r.g = X := ⟨_, rfl⟩
                obtain ⟨Y3, hY3⟩ : ∃ X, lkB l' r.e r.g = X := ⟨_, rfl⟩
                clear hS hR hr hp hge hgg hgs hga e0 g0 s0 hjm
                rcases lks with s1 | s1 | s1
                · obtain ⟨k1, k2, k3⟩ := lk1 s1
                  rw [s1] at m0
                  have HLK := Lib.hid (pb_look hP HD.out.1 r.e r.g hi hg (k2.trans pa.symm) (k3.trans pb.symm) k1)
                  clear lk1 lk2 lk3 hX3 hY3 hi hg pa pb k1 k2 k3
                  go_wp2_with fail
                  go_region_held3 (fun W => W.cell? ⟨ge, j3, none⟩ = some (.int .i64 r.e) ∧ W.cell? ⟨gg, j3, none⟩ = some (.int .i64 r.g) ∧ W.cell? ⟨gs, j3, none⟩ = some (.int .i64 1) ∧ W.cell? ⟨ga, j3 * 3 + 1, none⟩ = some (.int .i64 p.a) ∧ W.cell? ⟨ga, j3 * 3 + 2, none⟩ = some (.int .i64 p.b)) (first | exact m0 | exact m1) (first | (go_at_call 12; refine HLK.out.mono ?_; rintro e w17 ⟨rfl, hb7, h7⟩; have H7 := Lib.hid (And.intro h7 (HD.out.2.below hb7)); have m1 := RD.out _ H7.out.2; rw [s1] at m1; clear hb7 h7))
                  obtain ⟨_, _, s0, a1, a2⟩ := m1
                  clear m0 HD HLK
                  go_wp2_with fail
                  go_roundw
                  case rel => exact ⟨j3 + 1, by have := HJ.out; omega, by go_num, H7.out.1, H7.out.2⟩
                  case measure => (have := HJ.out; simp [RowKit.intOf]; omega)
                · have k1 := lk2 s1
                  rw [s1] at m0
                  have HLK := Lib.hid (pb_look hP HD.out.1 r.e r.g hi hg hX3 hY3 k1)
                  clear lk1 lk2 lk3 hX3 hY3 hi hg pa pb k1
                  go_wp2_with fail
                  go_region_held3 (fun W => W.cell? ⟨ge, j3, none⟩ = some (.int .i64 r.e) ∧ W.cell? ⟨gg, j3, none⟩ = some (.int .i64 r.g) ∧ W.cell? ⟨gs, j3, none⟩ = some (.int .i64 2) ∧ W.cell? ⟨ga, j3 * 3 + 1, none⟩ = some (.int .i64 p.a) ∧ W.cell? ⟨ga, j3 * 3 + 2, none⟩ = some (.int .i64 p.b)) (first | exact m0 | exact m1) (first | (go_at_call 12; refine HLK.out.mono ?_; rintro e w17 ⟨rfl, hb7, h7⟩; have H7 := Lib.hid (And.intro h7 (HD.out.2.below hb7)); have m1 := RD.out _ H7.out.2; rw [s1] at m1; clear hb7 h7))
                  obtain ⟨_, _, s0, a1, a2⟩ := m1
                  clear m0 HD HLK
                  go_wp2_with fail
                  go_roundw
                  case rel => exact ⟨j3 + 1, by have := HJ.out; omega, by go_num, H7.out.1, H7.out.2⟩
                  case measure => (have := HJ.out; simp [RowKit.intOf]; omega)
                · have k1 := lk3 s1
                  rw [s1] at m0
                  have HLK := Lib.hid (pb_look hP HD.out.1 r.e r.g hi hg hX3 hY3 k1)
                  clear lk1 lk2 lk3 hX3 hY3 hi hg pa pb k1
                  go_wp2_with fail
                  go_region_held3 (fun W => W.cell? ⟨ge, j3, none⟩ = some (.int .i64 r.e) ∧ W.cell? ⟨gg, j3, none⟩ = some (.int .i64 r.g) ∧ W.cell? ⟨gs, j3, none⟩ = some (.int .i64 3) ∧ W.cell? ⟨ga, j3 * 3 + 1, none⟩ = some (.int .i64 p.a) ∧ W.cell? ⟨ga, j3 * 3 + 2, none⟩ = some (.int .i64 p.b)) (first | exact m0 | exact m1) (first | (go_at_call 12; refine HLK.out.mono ?_; rintro e w17 ⟨rfl, hb7, h7⟩; have H7 := Lib.hid (And.intro h7 (HD.out.2.below hb7)); have m1 := RD.out _ H7.out.2; rw [s1] at m1; clear hb7 h7))
                  obtain ⟨_, _, s0, a1, a2⟩ := m1
                  clear m0 HD HLK
                  go_wp2_with fail
                  go_roundw
                  case rel => exact ⟨j3 + 1, by have := HJ.out; omega, by go_num, H7.out.1, H7.out.2⟩
                  case measure => (have := HJ.out; simp [RowKit.intOf]; omega)
              · have hjm' : ¬ ((j3 : Int) < h2.length) := by omega
                have HF := Lib.hid (And.intro hS.out hR.out)
                clear hS hR
                go_wp2_with fail
                go_roundw
                case rel => exact ⟨k + 1, l', xs2, h2, HSZ.out.2, by go_num, hmk, HF.out.1, HF.out.2, HC.out.2.2⟩
                case measure => (have := HSZ.out; simp [RowKit.intOf]; omega)
    · have hlt' : ¬ ((k : Int) < L.length) := by omega
      have HB := Lib.hid hS.out.bl
      clear hS hR hG HACT
      go_wp2_with fail
      refine (alive15_any hP wr).mono ?_
      rintro e w8 ⟨rfl, hb8⟩
      have HB8 := Lib.hid (below_more HB.out hb8)
      clear hb8 HB
      go_wp2_with fail
      go_ret
      exact ⟨rfl, HB8.out⟩
end
end Px
end Go.Proofs.Ytdconkggghmgkaa
