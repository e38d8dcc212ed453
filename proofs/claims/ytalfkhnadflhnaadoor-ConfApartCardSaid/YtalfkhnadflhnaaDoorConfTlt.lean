/- ConfApart where the list may be a configuration, and the tenant has cells. -/
import Derived.Test.YtalfkhnadflhnaaDoorConfS
namespace Go.Proofs.YtalfkhnadflhnaaDoor
open Go.RowKit

set_option maxRecDepth 100000 in
set_option maxHeartbeats 3200000 in
theorem apart_lt (u0 u1 u2 : Nat) (a0 : u0 ≤ 255) (a1 : u1 ≤ 255) (a2 : u2 ≤ 255) (A : Option Addr) (cap : Nat) (L : List Sh) (w : World) (hl : Lay w) (hL : ShReads w A L) (hlen : L.length ≤ 9223372036854775807) (hr : rightB L = true) (k : Nat) (hk : u0 % L.length = k) (x : Sh) (hx : L[k]? = some x) (N V : Int) (g : Good x N V) (hN : 0 < N) (hV : 0 < V)
    (p1 p2 wd P1 P2 S1 S2 k1 k2 : Int) (m1 : (u1 : Int) % N = p1) (m2 : (u2 : Int) % N = p2) (mw : (u1 : Int) % V = wd) (hP1 : posZ x.a x.b p1 = P1) (hP2 : posZ x.a x.b p2 = P2) (hC1 : classZ x.a x.b x.c x.q x.s p1 = k1) (hC2 : classZ x.a x.b x.c x.q x.s p2 = k2) (hS1 : sizeZ k1 = S1) (hS2 : sizeZ k2 = S2)
    (q1 : 0 ≤ p1 ∧ p1 < N) (q2 : 0 ≤ p2 ∧ p2 < N) (qw : 0 ≤ wd ∧ wd < V) (r1 : 0 ≤ P1 ∧ P1 + S1 ≤ V ∧ 2 ≤ S1) (r2 : 0 ≤ P2 ∧ P2 + S2 ≤ V ∧ 2 ≤ S2) (hlt : p1 < p2) (hle : P1 + S1 ≤ P2) :
    Calls Tryd.prog 4 #[.slice A L.length cap, .agg #[.int .u8 u0, .int .u8 u1, .int .u8 u2]] w fun e w' => e = .returned (.bool true) ∧ Below w.heap.size w w' := by
  have hb0 : Below w.heap.size w (w.alloc (.cells #[.int .u8 u0, .int .u8 u1, .int .u8 u2] 34)) := (Below.refl _ _).alloc (Nat.le_refl _) _
  have hL0 := hL.below hb0
  have h16 : L.length ≤ 16 := right_le hr
  have h1 : 1 ≤ L.length := by simp only [rightB, Bool.and_eq_true, inB, decide_eq_true_eq] at hr; omega
  have hkl : k < L.length := by rw [← hk]; exact Nat.mod_lt _ (by omega)
  have hrem : (u0 : Int) % (L.length : Int) = (k : Int) := by rw [← hk]; rfl
  have HK := Lib.hid hk
  clear hk
  obtain ⟨e1, e2, _⟩ := base_next hr k x hx
  obtain ⟨b, off, rfl, hbl, c0, c1, c2, c3, c4⟩ := hL k x hx
  have hsb := sumW_bd (L.take k)
  have hsl : (L.take k).length ≤ k := List.length_take_le _ _
  have hxw : x.words = V := g.w
  generalize sumW (L.take k) = b0 at *
  have E1 := Lib.hid e1
  have E2 := Lib.hid e2
  have HX := Lib.hid hx
  have HW := Lib.hid hxw
  obtain ⟨n0, n1, v0, v1⟩ := g.bd
  clear e1 e2 hx hxw
  have hlast : k + 1 < L.length ∨ ¬ k + 1 < L.length := by omega
  have HP1 := Lib.hid hP1
  have HP2 := Lib.hid hP2
  have HC1 := Lib.hid hC1
  have HC2 := Lib.hid hC2
  have HS1 := Lib.hid hS1
  have HS2 := Lib.hid hS2
  have HN : (N == 0) = false := by simp; omega
  have HV : (V == 0) = false := by simp; omega
  clear hP1 hP2 hC1 hC2 hS1 hS2
  obtain ⟨r1a, r1b, r1c⟩ := r1
  obtain ⟨r2a, r2b, r2c⟩ := r2
  have hne : (p1 != p2) = true := by simp; omega
  rcases hlast with hlast | hlast
  · have E3 := Lib.hid (E2.out hlast)
    rw [HW.out] at E3
    go_enter Tryd.func4, Tryd.ntmps4
    go_wp2_with (first
      | (go_at_call 19; refine (rright_any _ _ _ _ hL0 hlen).mono ?_; rintro e w1 ⟨rfl, hb1⟩; have hAP := AP.start (x := x) hl hL hb1; have hc1 := below_more hb0 hb1; replace c0 := (hc1.cell (p := ⟨b, _, none⟩) hbl).trans c0; replace c1 := (hc1.cell (p := ⟨b, _, none⟩) hbl).trans c1; replace c2 := (hc1.cell (p := ⟨b, _, none⟩) hbl).trans c2; replace c3 := (hc1.cell (p := ⟨b, _, none⟩) hbl).trans c3; replace c4 := (hc1.cell (p := ⟨b, _, none⟩) hbl).trans c4; obtain ⟨hk1, _⟩ := bcell hb1; clear hb1 hc1)
      | (go_at_call 14; refine (ap_count g hAP).mono ?_; rintro e w2 ⟨rfl, hAP⟩; clear hk1 c0 c1 c2 c3 c4; obtain ⟨⟨d0, d1, d2⟩, c0, c1, c2, c3, c4⟩ := hAP.2)
      | (go_at_call 20; ((with_reducible refine (ap_base cap _ b0 hlen (by omega) E1.out hAP).mono ?_); rintro e w3 ⟨rfl, hAP⟩; clear d0 d1 d2 c0 c1 c2 c3 c4; obtain ⟨⟨d0, d1, d2⟩, c0, c1, c2, c3, c4⟩ := hAP.2))
      | (go_at_call 16; refine (ap_words g hAP).mono ?_; rintro e w4 ⟨rfl, hAP⟩; clear d0 d1 d2 c0 c1 c2 c3 c4; obtain ⟨⟨d0, d1, d2⟩, c0, c1, c2, c3, c4⟩ := hAP.2)
      | (go_at_call 20; ((with_reducible refine (ap_base cap _ _ hlen (by omega) E3.out hAP).mono ?_); rintro e w3 ⟨rfl, hAP⟩; clear d0 d1 d2 c0 c1 c2 c3 c4; obtain ⟨⟨d0, d1, d2⟩, c0, c1, c2, c3, c4⟩ := hAP.2))
      | (go_at_call 12; ((with_reducible refine (ap_at g p1 q1.1 q1.2 hAP).mono ?_); rintro e w6 ⟨rfl, hAP⟩; rw [HP1.out]; clear d0 d1 d2 c0 c1 c2 c3 c4; obtain ⟨⟨d0, d1, d2⟩, c0, c1, c2, c3, c4⟩ := hAP.2))
      | (go_at_call 12; ((with_reducible refine (ap_at g p2 q2.1 q2.2 hAP).mono ?_); rintro e w6 ⟨rfl, hAP⟩; rw [HP2.out]; clear d0 d1 d2 c0 c1 c2 c3 c4; obtain ⟨⟨d0, d1, d2⟩, c0, c1, c2, c3, c4⟩ := hAP.2))
      | (go_at_call 10; ((with_reducible refine (ap_class p1 (by omega) hAP).mono ?_); rintro e w6 ⟨rfl, hAP⟩; rw [HC1.out]; clear d0 d1 d2 c0 c1 c2 c3 c4; obtain ⟨⟨d0, d1, d2⟩, c0, c1, c2, c3, c4⟩ := hAP.2))
      | (go_at_call 10; ((with_reducible refine (ap_class p2 (by omega) hAP).mono ?_); rintro e w6 ⟨rfl, hAP⟩; rw [HC2.out]; clear d0 d1 d2 c0 c1 c2 c3 c4; obtain ⟨⟨d0, d1, d2⟩, c0, c1, c2, c3, c4⟩ := hAP.2))
      | (go_at_call 8; ((with_reducible refine (ap_size k1 hAP).mono ?_); rintro e w6 ⟨rfl, hAP⟩; rw [HS1.out]; clear d0 d1 d2 c0 c1 c2 c3 c4; obtain ⟨⟨d0, d1, d2⟩, c0, c1, c2, c3, c4⟩ := hAP.2))
      | (go_at_call 8; ((with_reducible refine (ap_size k2 hAP).mono ?_); rintro e w6 ⟨rfl, hAP⟩; rw [HS2.out]; clear d0 d1 d2 c0 c1 c2 c3 c4; obtain ⟨⟨d0, d1, d2⟩, c0, c1, c2, c3, c4⟩ := hAP.2))
      )
    rw [mw]
    clear d0 d1 d2 c0 c1 c2 c3 c4 HP1 HP2 HC1 HC2 HS1 HS2 r1a r1b r1c r2a r2b r2c hlt hle m1 m2 mw hrem
    go_loopw [18, 19] (fun f i wr => ∃ j : Nat, (j : Int) ≤ N ∧ i = .int .i64 j ∧ f = .int .i64 (fnd wd (posZ x.a x.b j)) ∧ AP w w.heap.size w1.heap.size x u0 u1 u2 (some ⟨b, off, none⟩) L wr) (fun _ i _ => N.toNat - (intOf i).toNat)
    case atStart => exact ⟨0, by omega, rfl, by rw [fnd_0 (by have := g.p0; simpa using (by omega : posZ x.a x.b 0 ≤ wd))], hAP⟩
    case round =>
      obtain ⟨j, hj, rfl, rfl, hAP⟩ := hrel
      obtain ⟨⟨d0, d1, d2⟩, c0, c1, c2, c3, c4⟩ := hAP.2
      by_cases hjN : (j : Int) < N
      · obtain ⟨z1, z2⟩ := g.sz j (by omega) hjN
        have z3 := g.mono j (j + 1) (by omega) (by omega) (by omega)
        have z0 := g.mono 0 j (by omega) (by omega) (by omega)
        rw [g.p0] at z0
        have z4 := g.mono (j + 1) N (by omega) (by omega) (by omega)
        rw [g.pN] at z4
        have hnext : posZ x.a x.b ((j + 1 : Nat) : Int) = posZ x.a x.b (j + 1) := by rfl
        have HNX := Lib.hid hnext
        clear hnext
        generalize hP : posZ x.a x.b j = P at *
        generalize posZ x.a x.b (j + 1) = P' at *
        generalize hk1 : classZ x.a x.b x.c x.q x.s j = k1 at *
        generalize hS : sizeZ k1 = S at *
        have HP := Lib.hid hP
        have HC := Lib.hid hk1
        have HS := Lib.hid hS
        have hP' : P' = P + S := by omega
        clear hP hk1 hS z1
        subst hP'
        by_cases t1 : wd < P
        · have f1 := fnd_1 t1
          have f2 := fnd_1 (show wd < P + S by omega)
          have F2 := Lib.hid f2
          clear f2
          go_wp2_with (first
            | (go_at_call 12; ((with_reducible refine (ap_at g j (by omega) hjN hAP).mono ?_); rintro e w6 ⟨rfl, hAP⟩; rw [HP.out]; clear d0 d1 d2 c0 c1 c2 c3 c4; obtain ⟨⟨d0, d1, d2⟩, c0, c1, c2, c3, c4⟩ := hAP.2)))
          go_roundw
          case rel => exact ⟨j + 1, by omega, by go_num, by rw [HNX.out, F2.out], hAP⟩
          case measure => simp [intOf]; omega
        · by_cases t2 : wd < P + S
          · have f1 := fnd_0 (show P ≤ wd by omega)
            have f2 := fnd_1 t2
            have F2 := Lib.hid f2
            clear f2
            go_wp2_with (first
              | (go_at_call 12; ((with_reducible refine (ap_at g j (by omega) hjN hAP).mono ?_); rintro e w6 ⟨rfl, hAP⟩; rw [HP.out]; clear d0 d1 d2 c0 c1 c2 c3 c4; obtain ⟨⟨d0, d1, d2⟩, c0, c1, c2, c3, c4⟩ := hAP.2))
              | (go_at_call 10; ((with_reducible refine (ap_class j (by omega) hAP).mono ?_); rintro e w6 ⟨rfl, hAP⟩; rw [HC.out]; clear d0 d1 d2 c0 c1 c2 c3 c4; obtain ⟨⟨d0, d1, d2⟩, c0, c1, c2, c3, c4⟩ := hAP.2))
              | (go_at_call 8; ((with_reducible refine (ap_size k1 hAP).mono ?_); rintro e w6 ⟨rfl, hAP⟩; rw [HS.out]; clear d0 d1 d2 c0 c1 c2 c3 c4; obtain ⟨⟨d0, d1, d2⟩, c0, c1, c2, c3, c4⟩ := hAP.2)))
            go_roundw
            case rel => exact ⟨j + 1, by omega, by go_num, by rw [HNX.out, F2.out], hAP⟩
            case measure => simp [intOf]; omega
          · have f1 := fnd_0 (show P ≤ wd by omega)
            have f2 := fnd_0 (show P + S ≤ wd by omega)
            have F2 := Lib.hid f2
            clear f2
            go_wp2_with (first
              | (go_at_call 12; ((with_reducible refine (ap_at g j (by omega) hjN hAP).mono ?_); rintro e w6 ⟨rfl, hAP⟩; rw [HP.out]; clear d0 d1 d2 c0 c1 c2 c3 c4; obtain ⟨⟨d0, d1, d2⟩, c0, c1, c2, c3, c4⟩ := hAP.2))
              | (go_at_call 10; ((with_reducible refine (ap_class j (by omega) hAP).mono ?_); rintro e w6 ⟨rfl, hAP⟩; rw [HC.out]; clear d0 d1 d2 c0 c1 c2 c3 c4; obtain ⟨⟨d0, d1, d2⟩, c0, c1, c2, c3, c4⟩ := hAP.2))
              | (go_at_call 8; ((with_reducible refine (ap_size k1 hAP).mono ?_); rintro e w6 ⟨rfl, hAP⟩; rw [HS.out]; clear d0 d1 d2 c0 c1 c2 c3 c4; obtain ⟨⟨d0, d1, d2⟩, c0, c1, c2, c3, c4⟩ := hAP.2)))
            go_roundw
            case rel => exact ⟨j + 1, by omega, by go_num, by rw [HNX.out, F2.out], hAP⟩
            case measure => simp [intOf]; omega
      · have hjN' : (j : Int) = N := by omega
        have f1 : fnd wd (posZ x.a x.b j) = 1 := fnd_1 (by rw [hjN', g.pN]; omega)
        clear hjN'
        go_wp2_with (go_at_call 5; refine (ap_alive hAP).mono ?_; rintro e w5 ⟨rfl, hAP⟩)
        go_ret
        exact ⟨by simp, hAP.1.2.2.2.2⟩
  · go_enter Tryd.func4, Tryd.ntmps4
    go_wp2_with (first
      | (go_at_call 19; refine (rright_any _ _ _ _ hL0 hlen).mono ?_; rintro e w1 ⟨rfl, hb1⟩; have hAP := AP.start (x := x) hl hL hb1; have hc1 := below_more hb0 hb1; replace c0 := (hc1.cell (p := ⟨b, _, none⟩) hbl).trans c0; replace c1 := (hc1.cell (p := ⟨b, _, none⟩) hbl).trans c1; replace c2 := (hc1.cell (p := ⟨b, _, none⟩) hbl).trans c2; replace c3 := (hc1.cell (p := ⟨b, _, none⟩) hbl).trans c3; replace c4 := (hc1.cell (p := ⟨b, _, none⟩) hbl).trans c4; obtain ⟨hk1, _⟩ := bcell hb1; clear hb1 hc1)
      | (go_at_call 14; refine (ap_count g hAP).mono ?_; rintro e w2 ⟨rfl, hAP⟩; clear hk1 c0 c1 c2 c3 c4; obtain ⟨⟨d0, d1, d2⟩, c0, c1, c2, c3, c4⟩ := hAP.2)
      | (go_at_call 20; ((with_reducible refine (ap_base cap _ b0 hlen (by omega) E1.out hAP).mono ?_); rintro e w3 ⟨rfl, hAP⟩; clear d0 d1 d2 c0 c1 c2 c3 c4; obtain ⟨⟨d0, d1, d2⟩, c0, c1, c2, c3, c4⟩ := hAP.2))
      | (go_at_call 16; refine (ap_words g hAP).mono ?_; rintro e w4 ⟨rfl, hAP⟩; clear d0 d1 d2 c0 c1 c2 c3 c4; obtain ⟨⟨d0, d1, d2⟩, c0, c1, c2, c3, c4⟩ := hAP.2)
      | (go_at_call 12; ((with_reducible refine (ap_at g p1 q1.1 q1.2 hAP).mono ?_); rintro e w6 ⟨rfl, hAP⟩; rw [HP1.out]; clear d0 d1 d2 c0 c1 c2 c3 c4; obtain ⟨⟨d0, d1, d2⟩, c0, c1, c2, c3, c4⟩ := hAP.2))
      | (go_at_call 12; ((with_reducible refine (ap_at g p2 q2.1 q2.2 hAP).mono ?_); rintro e w6 ⟨rfl, hAP⟩; rw [HP2.out]; clear d0 d1 d2 c0 c1 c2 c3 c4; obtain ⟨⟨d0, d1, d2⟩, c0, c1, c2, c3, c4⟩ := hAP.2))
      | (go_at_call 10; ((with_reducible refine (ap_class p1 (by omega) hAP).mono ?_); rintro e w6 ⟨rfl, hAP⟩; rw [HC1.out]; clear d0 d1 d2 c0 c1 c2 c3 c4; obtain ⟨⟨d0, d1, d2⟩, c0, c1, c2, c3, c4⟩ := hAP.2))
      | (go_at_call 10; ((with_reducible refine (ap_class p2 (by omega) hAP).mono ?_); rintro e w6 ⟨rfl, hAP⟩; rw [HC2.out]; clear d0 d1 d2 c0 c1 c2 c3 c4; obtain ⟨⟨d0, d1, d2⟩, c0, c1, c2, c3, c4⟩ := hAP.2))
      | (go_at_call 8; ((with_reducible refine (ap_size k1 hAP).mono ?_); rintro e w6 ⟨rfl, hAP⟩; rw [HS1.out]; clear d0 d1 d2 c0 c1 c2 c3 c4; obtain ⟨⟨d0, d1, d2⟩, c0, c1, c2, c3, c4⟩ := hAP.2))
      | (go_at_call 8; ((with_reducible refine (ap_size k2 hAP).mono ?_); rintro e w6 ⟨rfl, hAP⟩; rw [HS2.out]; clear d0 d1 d2 c0 c1 c2 c3 c4; obtain ⟨⟨d0, d1, d2⟩, c0, c1, c2, c3, c4⟩ := hAP.2))
      )
    rw [mw]
    clear d0 d1 d2 c0 c1 c2 c3 c4 HP1 HP2 HC1 HC2 HS1 HS2 r1a r1b r1c r2a r2b r2c hlt hle m1 m2 mw hrem
    go_loopw [18, 19] (fun f i wr => ∃ j : Nat, (j : Int) ≤ N ∧ i = .int .i64 j ∧ f = .int .i64 (fnd wd (posZ x.a x.b j)) ∧ AP w w.heap.size w1.heap.size x u0 u1 u2 (some ⟨b, off, none⟩) L wr) (fun _ i _ => N.toNat - (intOf i).toNat)
    case atStart => exact ⟨0, by omega, rfl, by rw [fnd_0 (by have := g.p0; simpa using (by omega : posZ x.a x.b 0 ≤ wd))], hAP⟩
    case round =>
      obtain ⟨j, hj, rfl, rfl, hAP⟩ := hrel
      obtain ⟨⟨d0, d1, d2⟩, c0, c1, c2, c3, c4⟩ := hAP.2
      by_cases hjN : (j : Int) < N
      · obtain ⟨z1, z2⟩ := g.sz j (by omega) hjN
        have z3 := g.mono j (j + 1) (by omega) (by omega) (by omega)
        have z0 := g.mono 0 j (by omega) (by omega) (by omega)
        rw [g.p0] at z0
        have z4 := g.mono (j + 1) N (by omega) (by omega) (by omega)
        rw [g.pN] at z4
        have hnext : posZ x.a x.b ((j + 1 : Nat) : Int) = posZ x.a x.b (j + 1) := by rfl
        have HNX := Lib.hid hnext
        clear hnext
        generalize hP : posZ x.a x.b j = P at *
        generalize posZ x.a x.b (j + 1) = P' at *
        generalize hk1 : classZ x.a x.b x.c x.q x.s j = k1 at *
        generalize hS : sizeZ k1 = S at *
        have HP := Lib.hid hP
        have HC := Lib.hid hk1
        have HS := Lib.hid hS
        have hP' : P' = P + S := by omega
        clear hP hk1 hS z1
        subst hP'
        by_cases t1 : wd < P
        · have f1 := fnd_1 t1
          have f2 := fnd_1 (show wd < P + S by omega)
          have F2 := Lib.hid f2
          clear f2
          go_wp2_with (first
            | (go_at_call 12; ((with_reducible refine (ap_at g j (by omega) hjN hAP).mono ?_); rintro e w6 ⟨rfl, hAP⟩; rw [HP.out]; clear d0 d1 d2 c0 c1 c2 c3 c4; obtain ⟨⟨d0, d1, d2⟩, c0, c1, c2, c3, c4⟩ := hAP.2)))
          go_roundw
          case rel => exact ⟨j + 1, by omega, by go_num, by rw [HNX.out, F2.out], hAP⟩
          case measure => simp [intOf]; omega
        · by_cases t2 : wd < P + S
          · have f1 := fnd_0 (show P ≤ wd by omega)
            have f2 := fnd_1 t2
            have F2 := Lib.hid f2
            clear f2
            go_wp2_with (first
              | (go_at_call 12; ((with_reducible refine (ap_at g j (by omega) hjN hAP).mono ?_); rintro e w6 ⟨rfl, hAP⟩; rw [HP.out]; clear d0 d1 d2 c0 c1 c2 c3 c4; obtain ⟨⟨d0, d1, d2⟩, c0, c1, c2, c3, c4⟩ := hAP.2))
              | (go_at_call 10; ((with_reducible refine (ap_class j (by omega) hAP).mono ?_); rintro e w6 ⟨rfl, hAP⟩; rw [HC.out]; clear d0 d1 d2 c0 c1 c2 c3 c4; obtain ⟨⟨d0, d1, d2⟩, c0, c1, c2, c3, c4⟩ := hAP.2))
              | (go_at_call 8; ((with_reducible refine (ap_size k1 hAP).mono ?_); rintro e w6 ⟨rfl, hAP⟩; rw [HS.out]; clear d0 d1 d2 c0 c1 c2 c3 c4; obtain ⟨⟨d0, d1, d2⟩, c0, c1, c2, c3, c4⟩ := hAP.2)))
            go_roundw
            case rel => exact ⟨j + 1, by omega, by go_num, by rw [HNX.out, F2.out], hAP⟩
            case measure => simp [intOf]; omega
          · have f1 := fnd_0 (show P ≤ wd by omega)
            have f2 := fnd_0 (show P + S ≤ wd by omega)
            have F2 := Lib.hid f2
            clear f2
            go_wp2_with (first
              | (go_at_call 12; ((with_reducible refine (ap_at g j (by omega) hjN hAP).mono ?_); rintro e w6 ⟨rfl, hAP⟩; rw [HP.out]; clear d0 d1 d2 c0 c1 c2 c3 c4; obtain ⟨⟨d0, d1, d2⟩, c0, c1, c2, c3, c4⟩ := hAP.2))
              | (go_at_call 10; ((with_reducible refine (ap_class j (by omega) hAP).mono ?_); rintro e w6 ⟨rfl, hAP⟩; rw [HC.out]; clear d0 d1 d2 c0 c1 c2 c3 c4; obtain ⟨⟨d0, d1, d2⟩, c0, c1, c2, c3, c4⟩ := hAP.2))
              | (go_at_call 8; ((with_reducible refine (ap_size k1 hAP).mono ?_); rintro e w6 ⟨rfl, hAP⟩; rw [HS.out]; clear d0 d1 d2 c0 c1 c2 c3 c4; obtain ⟨⟨d0, d1, d2⟩, c0, c1, c2, c3, c4⟩ := hAP.2)))
            go_roundw
            case rel => exact ⟨j + 1, by omega, by go_num, by rw [HNX.out, F2.out], hAP⟩
            case measure => simp [intOf]; omega
      · have hjN' : (j : Int) = N := by omega
        have f1 : fnd wd (posZ x.a x.b j) = 1 := fnd_1 (by rw [hjN', g.pN]; omega)
        clear hjN'
        go_wp2_with (go_at_call 5; refine (ap_alive hAP).mono ?_; rintro e w5 ⟨rfl, hAP⟩)
        go_ret
        exact ⟨by simp, hAP.1.2.2.2.2⟩
end Go.Proofs.YtalfkhnadflhnaaDoor
