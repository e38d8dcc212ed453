/- HandleBack as a call. -/
import Derived.Test.YtgopblhaapbimaaDoorHandI
namespace Go.Proofs.YtgopblhaapbimaaDoor
open Go.RowKit

theorem back1 (x : Int) : encZ (decK x) (decT x) (decI x) (decG x) = x := by
  unfold encZ decK decT decI decG
  omega
theorem back2 {k t i g : Int} (h : rightB k t i g = true) : u64ok (encZ k t i g) ∧ decK (encZ k t i g) = k ∧ decT (encZ k t i g) = t ∧ decI (encZ k t i g) = i ∧ decG (encZ k t i g) = g := by
  obtain ⟨k0, k1, t0, t1, i0, i1, g0, g1⟩ := Right_ok h
  unfold encZ u64ok decK decT decI decG
  omega
section
variable {w W : World} {L : List (Nat × List Value)} {k t i g x z : Int}
theorem at_right (h : HS w L W) (b : Bool) (hr : rightB k t i g = b) : Calls Tryd.prog 12 #[.agg #[.int .i64 k, .int .i64 t, .int .i64 i, .int .i64 g]] W fun r w' => r = .returned (.bool b) ∧ HS w L w' := by
  subst hr
  exact hs_right h k t i g
theorem enc_yes (h : HS w L W) (hr : rightB k t i g = true) (hz : encZ k t i g = z) : Calls Tryd.prog 6 #[.agg #[.int .i64 k, .int .i64 t, .int .i64 i, .int .i64 g]] W fun r w' => r = .returned (.tuple #[.int .u64 z, .int .i64 0]) ∧ HS w L w' :=
  at_encode h k t i g z 0 (by simp [encV, hr, hz]) (by simp [encE, hr])
theorem enc_no (h : HS w L W) (hr : rightB k t i g = false) : Calls Tryd.prog 6 #[.agg #[.int .i64 k, .int .i64 t, .int .i64 i, .int .i64 g]] W fun r w' => r = .returned (.tuple #[.int .u64 0, .int .i64 1]) ∧ HS w L w' :=
  at_encode h k t i g 0 1 (by simp [encV, hr]) (by simp [encE, hr])
theorem dec_back (h : HS w L W) (hr : rightB k t i g = true) (hz : encZ k t i g = z) : Calls Tryd.prog 8 #[.int .u64 z] W fun r w' => r = .returned (.tuple #[.agg #[.int .i64 k, .int .i64 t, .int .i64 i, .int .i64 g], .int .i64 0]) ∧ HS w L w' := by
  subst hz
  obtain ⟨h0, h1, h2, h3, h4⟩ := back2 hr
  have hR : decR (encZ k t i g) = true := by rw [decR, h1, h2, h3, h4, hr]
  exact at_decode h _ k t i g 0 h0 (by simp [fK, orZ, hR, h1]) (by simp [fT, orZ, hR, h2]) (by simp [fI, orZ, hR, h3]) (by simp [fG, orZ, hR, h4]) (by simp [decE, hR])
theorem dec_yes (h : HS w L W) (hx : u64ok x) (hR : decR x = true) : Calls Tryd.prog 8 #[.int .u64 x] W fun r w' => r = .returned (.tuple #[.agg #[.int .i64 (decK x), .int .i64 (decT x), .int .i64 (decI x), .int .i64 (decG x)], .int .i64 0]) ∧ HS w L w' :=
  at_decode h x _ _ _ _ 0 hx (by simp [fK, orZ, hR]) (by simp [fT, orZ, hR]) (by simp [fI, orZ, hR]) (by simp [fG, orZ, hR]) (by simp [decE, hR])
theorem dec_no (h : HS w L W) (hx : u64ok x) (hR : decR x = false) : Calls Tryd.prog 8 #[.int .u64 x] W fun r w' => r = .returned (.tuple #[.agg #[.int .i64 0, .int .i64 0, .int .i64 0, .int .i64 0], .int .i64 4]) ∧ HS w L w' :=
  at_decode h x _ _ _ _ 4 hx (by simp [fK, orZ, hR]) (by simp [fT, orZ, hR]) (by simp [fI, orZ, hR]) (by simp [fG, orZ, hR]) (by simp [decE, hR])
theorem parse_back (h : HS w L W) (hx : u64ok x) : Calls Tryd.prog 10 #[.string (txt x)] W fun r w' => r = .returned (.tuple #[.int .u64 x, .int .i64 0]) ∧ HS w L w' :=
  at_parse h (txt x) x 0 (par_txt hx.1 hx.2).1 (par_txt hx.1 hx.2).2
end
theorem right0 : rightB 0 0 0 0 = false := by decide +kernel

set_option maxRecDepth 100000 in
set_option maxHeartbeats 1600000 in
theorem back_any (k t i g x : Int) (w : World) (hx : u64ok x) (hT : Tab w) :
    Calls Tryd.prog 4 #[hnd k t i g, .int .u64 x] w fun e w' => e = .returned (.bool true) ∧ Below w.heap.size w w' := by
  have hS := (HS.start hT).add k t i g
  clear hT
  unfold hnd
  cases hr : rightB k t i g
  · go_enter Tryd.func4, Tryd.ntmps4
    go_wp2_with fail
    refine (enc_no hS hr).mono ?_
    rintro e w1 ⟨rfl, hS1⟩
    clear hS
    go_wp2_with fail
    refine (at_decode hS1 0 0 0 0 0 4 (by unfold u64ok; decide) (by decide +kernel) (by decide +kernel) (by decide +kernel) (by decide +kernel) (by decide +kernel)).mono ?_
    rintro e w2 ⟨rfl, hS2⟩
    have hS := hS2.more 0 0 0 0
    obtain ⟨c0, c1, c2, c3⟩ := hS.cells (b := w.heap.size) (k := k) (t := t) (i := i) (g := g) (by simp)
    clear hS1 hS2
    go_wp2_with fail
    refine (at_right hS false hr).mono ?_
    rintro e w3 ⟨rfl, hS3⟩
    clear hS c0 c1 c2 c3
    cases hR : decR x
    · go_wp2_with fail
      refine (dec_no hS3 hx hR).mono ?_
      rintro e w4 ⟨rfl, hS4⟩
      have hS := hS4.more 0 0 0 0
      clear hS3 hS4
      go_wp2_with fail
      refine (enc_no hS right0).mono ?_
      rintro e w5 ⟨rfl, hS5⟩
      clear hS
      go_wp2_with fail
      refine (hs_text hx hS5).mono ?_
      rintro e w6 ⟨rfl, hS6⟩
      clear hS5
      go_wp2_with fail
      refine (parse_back hS6 hx).mono ?_
      rintro e w7 ⟨rfl, hS7⟩
      clear hS6
      go_wp2_with fail
      refine (hs_alive hS7).mono ?_
      rintro e w8 ⟨rfl, hS8⟩
      clear hS7
      go_wp2_with fail
      go_ret
      exact ⟨by simp, hS8.2.1⟩
    · go_wp2_with fail
      refine (dec_yes hS3 hx hR).mono ?_
      rintro e w4 ⟨rfl, hS4⟩
      have hS := hS4.add (decK x) (decT x) (decI x) (decG x)
      clear hS3 hS4
      go_wp2_with fail
      generalize w4.heap.size = b at *
      refine (enc_yes hS hR (back1 x)).mono ?_
      rintro e w5 ⟨rfl, hS5⟩
      clear hS
      obtain ⟨c0, c1, c2, c3⟩ := hS5.cells (b := b) (k := decK x) (t := decT x) (i := decI x) (g := decG x) (by simp)
      go_wp2_with fail
      refine (at_right hS5 true hR).mono ?_
      rintro e w6 ⟨rfl, hS⟩
      clear hS5 c0 c1 c2 c3
      go_wp2_with fail
      refine (hs_text hx hS).mono ?_
      rintro e w6 ⟨rfl, hS6⟩
      clear hS
      go_wp2_with fail
      refine (parse_back hS6 hx).mono ?_
      rintro e w7 ⟨rfl, hS7⟩
      clear hS6
      go_wp2_with fail
      refine (hs_alive hS7).mono ?_
      rintro e w8 ⟨rfl, hS8⟩
      clear hS7
      go_wp2_with fail
      go_ret
      exact ⟨by simp, hS8.2.1⟩
  · obtain ⟨z, hz⟩ : ∃ z, encZ k t i g = z := ⟨_, rfl⟩
    have HZ := Lib.hid hz
    clear hz
    go_enter Tryd.func4, Tryd.ntmps4
    go_wp2_with fail
    refine (enc_yes hS hr HZ.out).mono ?_
    rintro e w1 ⟨rfl, hS1⟩
    clear hS
    go_wp2_with fail
    refine (dec_back hS1 hr HZ.out).mono ?_
    rintro e w2 ⟨rfl, hS2⟩
    have hS := hS2.add k t i g
    clear hS1 hS2
    obtain ⟨c0, c1, c2, c3⟩ := hS.cells (b := w.heap.size) (k := k) (t := t) (i := i) (g := g) (by simp)
    go_wp2_with fail
    generalize w2.heap.size = b at *
    refine (at_right hS true hr).mono ?_
    rintro e w3 ⟨rfl, hS3⟩
    clear hS c0 c1 c2 c3
    obtain ⟨c0, c1, c2, c3⟩ := hS3.cells (b := w.heap.size) (k := k) (t := t) (i := i) (g := g) (by simp)
    obtain ⟨d0, d1, d2, d3⟩ := hS3.cells (b := b) (k := k) (t := t) (i := i) (g := g) (by simp)
    cases hR : decR x
    · go_wp2_with fail
      refine (dec_no hS3 hx hR).mono ?_
      rintro e w4 ⟨rfl, hS4⟩
      have hS := hS4.more 0 0 0 0
      clear hS3 hS4 c0 c1 c2 c3 d0 d1 d2 d3
      go_wp2_with fail
      refine (enc_no hS right0).mono ?_
      rintro e w5 ⟨rfl, hS5⟩
      clear hS
      go_wp2_with fail
      refine (hs_text hx hS5).mono ?_
      rintro e w6 ⟨rfl, hS6⟩
      clear hS5
      go_wp2_with fail
      refine (parse_back hS6 hx).mono ?_
      rintro e w7 ⟨rfl, hS7⟩
      clear hS6
      go_wp2_with fail
      refine (hs_alive hS7).mono ?_
      rintro e w8 ⟨rfl, hS8⟩
      clear hS7
      go_wp2_with fail
      go_ret
      exact ⟨by simp, hS8.2.1⟩
    · go_wp2_with fail
      refine (dec_yes hS3 hx hR).mono ?_
      rintro e w4 ⟨rfl, hS4⟩
      have hS := hS4.add (decK x) (decT x) (decI x) (decG x)
      clear hS3 hS4 c0 c1 c2 c3 d0 d1 d2 d3
      go_wp2_with fail
      generalize w4.heap.size = b' at *
      refine (enc_yes hS hR (back1 x)).mono ?_
      rintro e w5 ⟨rfl, hS5⟩
      clear hS
      obtain ⟨c0, c1, c2, c3⟩ := hS5.cells (b := b') (k := decK x) (t := decT x) (i := decI x) (g := decG x) (by simp)
      go_wp2_with fail
      refine (at_right hS5 true hR).mono ?_
      rintro e w6 ⟨rfl, hS⟩
      clear hS5 c0 c1 c2 c3
      go_wp2_with fail
      refine (hs_text hx hS).mono ?_
      rintro e w6 ⟨rfl, hS6⟩
      clear hS
      go_wp2_with fail
      refine (parse_back hS6 hx).mono ?_
      rintro e w7 ⟨rfl, hS7⟩
      clear hS6
      go_wp2_with fail
      refine (hs_alive hS7).mono ?_
      rintro e w8 ⟨rfl, hS8⟩
      clear hS7
      go_wp2_with fail
      go_ret
      exact ⟨by simp, hS8.2.1⟩
end Go.Proofs.YtgopblhaapbimaaDoor
