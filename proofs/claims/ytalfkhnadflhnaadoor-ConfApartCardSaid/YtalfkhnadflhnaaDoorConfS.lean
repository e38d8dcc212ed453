/- ConfApart where the list may be a configuration. -/
import Derived.Test.YtalfkhnadflhnaaDoorConfR
namespace Go.Proofs.YtalfkhnadflhnaaDoor
open Go.RowKit

set_option maxRecDepth 100000 in
set_option maxHeartbeats 1600000 in
theorem apart_zero (u0 u1 u2 : Nat) (a0 : u0 ≤ 255) (A : Option Addr) (cap : Nat) (L : List Sh) (w : World) (hl : Lay w) (hL : ShReads w A L) (hlen : L.length ≤ 9223372036854775807) (hr : rightB L = true) (k : Nat) (hk : u0 % L.length = k) (x : Sh) (hx : L[k]? = some x) (N V : Int) (g : Good x N V) (hN : N = 0) :
    Calls Tryd.prog 4 #[.slice A L.length cap, .agg #[.int .u8 u0, .int .u8 u1, .int .u8 u2]] w fun e w' => e = .returned (.bool true) ∧ Below w.heap.size w w' := by
  have hb0 : Below w.heap.size w (w.alloc (.cells #[.int .u8 u0, .int .u8 u1, .int .u8 u2] 34)) := (Below.refl _ _).alloc (Nat.le_refl _) _
  have hL0 := hL.below hb0
  have h16 : L.length ≤ 16 := right_le hr
  have h1 : 1 ≤ L.length := by simp only [rightB, Bool.and_eq_true, inB, decide_eq_true_eq] at hr; omega
  have hkl : k < L.length := by rw [← hk]; exact Nat.mod_lt _ (by omega)
  have hrem : (u0 : Int) % (L.length : Int) = (k : Int) := by rw [← hk]; rfl
  have HK := Lib.hid hk
  clear hk
  obtain ⟨e1, e2, _⟩ := base_next hr k x hx
  obtain ⟨b, off, rfl, hbl, c0, c1, c2, c3, c4⟩ := hL k x hx
  have hsb := sumW_bd (L.take k)
  have hsl : (L.take k).length ≤ k := List.length_take_le _ _
  have hxw : x.words = V := g.w
  generalize sumW (L.take k) = b0 at *
  have E1 := Lib.hid e1
  have E2 := Lib.hid e2
  have HX := Lib.hid hx
  have HW := Lib.hid hxw
  obtain ⟨n0, n1, v0, v1⟩ := g.bd
  clear e1 e2 hx hxw
  have hlast : k + 1 < L.length ∨ ¬ k + 1 < L.length := by omega
  have hV : V = 0 := g.z.1 hN
  subst hN hV
  rcases hlast with hlast | hlast
  · have E3 := Lib.hid (E2.out hlast)
    rw [HW.out] at E3
    go_enter Tryd.func4, Tryd.ntmps4
    go_wp2_with (first
      | (go_at_call 19; refine (rright_any _ _ _ _ hL0 hlen).mono ?_; rintro e w1 ⟨rfl, hb1⟩; have hAP := AP.start (x := x) hl hL hb1; have hc1 := below_more hb0 hb1; replace c0 := (hc1.cell (p := ⟨b, _, none⟩) hbl).trans c0; replace c1 := (hc1.cell (p := ⟨b, _, none⟩) hbl).trans c1; replace c2 := (hc1.cell (p := ⟨b, _, none⟩) hbl).trans c2; replace c3 := (hc1.cell (p := ⟨b, _, none⟩) hbl).trans c3; replace c4 := (hc1.cell (p := ⟨b, _, none⟩) hbl).trans c4; obtain ⟨hk1, _⟩ := bcell hb1; clear hb1 hc1)
      | (go_at_call 14; refine (ap_count g hAP).mono ?_; rintro e w2 ⟨rfl, hAP⟩; clear hk1 c0 c1 c2 c3 c4; obtain ⟨⟨d0, d1, d2⟩, c0, c1, c2, c3, c4⟩ := hAP.2)
      | (go_at_call 20; ((with_reducible refine (ap_base cap _ b0 hlen (by omega) E1.out hAP).mono ?_); rintro e w3 ⟨rfl, hAP⟩; clear d0 d1 d2 c0 c1 c2 c3 c4; obtain ⟨⟨d0, d1, d2⟩, c0, c1, c2, c3, c4⟩ := hAP.2))
      | (go_at_call 16; refine (ap_words g hAP).mono ?_; rintro e w4 ⟨rfl, hAP⟩; clear d0 d1 d2 c0 c1 c2 c3 c4; obtain ⟨⟨d0, d1, d2⟩, c0, c1, c2, c3, c4⟩ := hAP.2)
      | (go_at_call 20; ((with_reducible refine (ap_base cap _ _ hlen (by omega) E3.out hAP).mono ?_); rintro e w3 ⟨rfl, hAP⟩; clear d0 d1 d2 c0 c1 c2 c3 c4; obtain ⟨⟨d0, d1, d2⟩, c0, c1, c2, c3, c4⟩ := hAP.2))
      | (go_at_call 5; refine (ap_alive hAP).mono ?_; rintro e w5 ⟨rfl, hAP⟩; clear d0 d1 d2 c0 c1 c2 c3 c4; obtain ⟨⟨d0, d1, d2⟩, c0, c1, c2, c3, c4⟩ := hAP.2))
    go_ret
    exact ⟨by simp, hAP.1.2.2.2.2⟩
  · go_enter Tryd.func4, Tryd.ntmps4
    go_wp2_with (first
      | (go_at_call 19; refine (rright_any _ _ _ _ hL0 hlen).mono ?_; rintro e w1 ⟨rfl, hb1⟩; have hAP := AP.start (x := x) hl hL hb1; have hc1 := below_more hb0 hb1; replace c0 := (hc1.cell (p := ⟨b, _, none⟩) hbl).trans c0; replace c1 := (hc1.cell (p := ⟨b, _, none⟩) hbl).trans c1; replace c2 := (hc1.cell (p := ⟨b, _, none⟩) hbl).trans c2; replace c3 := (hc1.cell (p := ⟨b, _, none⟩) hbl).trans c3; replace c4 := (hc1.cell (p := ⟨b, _, none⟩) hbl).trans c4; obtain ⟨hk1, _⟩ := bcell hb1; clear hb1 hc1)
      | (go_at_call 14; refine (ap_count g hAP).mono ?_; rintro e w2 ⟨rfl, hAP⟩; clear hk1 c0 c1 c2 c3 c4; obtain ⟨⟨d0, d1, d2⟩, c0, c1, c2, c3, c4⟩ := hAP.2)
      | (go_at_call 20; ((with_reducible refine (ap_base cap _ b0 hlen (by omega) E1.out hAP).mono ?_); rintro e w3 ⟨rfl, hAP⟩; clear d0 d1 d2 c0 c1 c2 c3 c4; obtain ⟨⟨d0, d1, d2⟩, c0, c1, c2, c3, c4⟩ := hAP.2))
      | (go_at_call 16; refine (ap_words g hAP).mono ?_; rintro e w4 ⟨rfl, hAP⟩; clear d0 d1 d2 c0 c1 c2 c3 c4; obtain ⟨⟨d0, d1, d2⟩, c0, c1, c2, c3, c4⟩ := hAP.2)
      | (go_at_call 5; refine (ap_alive hAP).mono ?_; rintro e w5 ⟨rfl, hAP⟩; clear d0 d1 d2 c0 c1 c2 c3 c4; obtain ⟨⟨d0, d1, d2⟩, c0, c1, c2, c3, c4⟩ := hAP.2))
    go_ret
    exact ⟨by simp, hAP.1.2.2.2.2⟩
end Go.Proofs.YtalfkhnadflhnaaDoor
