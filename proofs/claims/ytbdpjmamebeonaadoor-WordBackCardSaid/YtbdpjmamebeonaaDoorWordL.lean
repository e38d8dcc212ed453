/- WordBack, where both may be. -/
import Derived.Test.YtbdpjmamebeonaaDoorWordI
namespace Go.Proofs.YtbdpjmamebeonaaDoor
open Go.RowKit
theorem toList_ne {s s' : ByteArray} (h : ¬ s = s') : ¬ s.toList = s'.toList := fun e => h (by
  rw [Lib.toList_data, Lib.toList_data] at e
  exact ByteArray.ext (Array.toList_inj.1 e))
theorem ks_text_is {w W : World} {k n k' n' a b : Int} {s : ByteArray} (hb0 : 0 ≤ b) (hs : txt a b = s) (h : KS w k n k' n' W) : Calls Tryd.prog 12 #[.agg #[.int .i64 a, .int .u64 b]] W fun e w' => e = .returned (.string s) ∧ KS w k n k' n' w' := by
  subst hs
  exact (text_any a b W hb0 h.2.2.2).mono fun _ _ ⟨he, hb⟩ => ⟨he, h.step hb⟩

set_option maxRecDepth 100000 in
set_option maxHeartbeats 3200000 in
theorem back_eq (k n x : Int) (w : World) (hn : 0 ≤ n) (hx : u64ok x) (hT : Tab w) (hr : rightB k n = true) :
    Calls Tryd.prog 4 #[val k n, val k n, .int .u64 x] w fun e w' => e = .returned (.bool true) ∧ Below w.heap.size w w' := by
  have hf0 : (encE k n == 0) = true := by simp [encE, hr]
  have hf1 : (encE k n != 0) = false := by simp [encE, hr]
  have hS := KS.start hT k n k n
  clear hT
  generalize hz : encV k n = z
  generalize hf : encE k n = f at hf0 hf1
  have Hz := Lib.hid hz
  have Hf := Lib.hid hf
  clear hz hf
  unfold val
  go_enter Tryd.func4, Tryd.ntmps4
  go_wp2_with fail
  refine (ks_decode hx hS).mono ?_
  rintro e w1 ⟨rfl, hS1⟩
  clear hS
  have hS := hS1.step (w1 := w1.alloc (.cells #[.int .i64 (decK x), .int .u64 (decN x)] 25)) ((Below.refl _ _).alloc (Nat.le_refl _) _)
  have hX := Blk.new w1 #[.int .i64 (decK x), .int .u64 (decN x)] 25
  clear hS1
  go_wp2_with fail
  generalize w1.alloc (.cells #[.int .i64 (decK x), .int .u64 (decN x)] 25) = W at *
  generalize w1.heap.size = b at *
  refine (enc_back hx W).mono ?_
  rintro e w2 ⟨rfl, hb2⟩
  have hS2 := hS.step hb2
  have hX2 := hX.below hb2 hX.lt
  clear hS hX hb2
  have c0 := hX2.cell (i := 0) rfl
  have c1 := hX2.cell (i := 1) rfl
  go_wp2_with fail
  refine (right_back hx w2).mono ?_
  rintro e w3 ⟨rfl, hb3⟩
  have hS := hS2.step hb3
  clear hS2 hX2 hb3 c0 c1
  obtain ⟨c0, c1, c2, c3⟩ := hS.cells
  go_wp2_with fail
  refine (ks_encode_is hn Hz.out Hf.out hS).mono ?_
  rintro e w4 ⟨rfl, hS4⟩
  clear c0 c1 c2 c3 hS
  go_wp2_with fail
  go_region_held3 (fun w' => w'.cell? ⟨w.heap.size, 0, none⟩ = some (.int .i64 k) ∧ w'.cell? ⟨w.heap.size, 1, none⟩ = some (.int .u64 n) ∧ w'.cell? ⟨w.heap.size + 1, 0, none⟩ = some (.int .i64 k) ∧ w'.cell? ⟨w.heap.size + 1, 1, none⟩ = some (.int .u64 n) ∧ KS w k n k n w') (first | exact ks_S hS4 | exact ks_S hS4.drew)
    (first
    | (go_at_call 8; ((with_reducible refine (ks_right_is hr (ks_of (by assumption))).mono ?_); rintro e w1 ⟨rfl, hS4⟩))
    | (go_at_call 10; ((with_reducible refine (ks_decode_back hn hr Hz.out (ks_of (by assumption))).mono ?_); rintro e w1 ⟨rfl, hS4⟩)))
  obtain ⟨c0, c1, c2, c3⟩ := hS4.cells
  go_wp2_with fail
  refine (ks_right_is hr hS4).mono ?_
  rintro e w6 ⟨rfl, hS⟩
  clear hS4 c0 c1 c2 c3
  obtain ⟨c0, c1, c2, c3⟩ := hS.cells
  go_wp2_with fail
  refine (ks_right_is hr hS).mono ?_
  rintro e w7 ⟨rfl, hS7⟩
  clear hS c0 c1 c2 c3
  have hS := hS7
  clear hS7
  go_wp2_with fail
  go_region_held3 (fun w' => w'.cell? ⟨w.heap.size, 0, none⟩ = some (.int .i64 k) ∧ w'.cell? ⟨w.heap.size, 1, none⟩ = some (.int .u64 n) ∧ w'.cell? ⟨w.heap.size + 1, 0, none⟩ = some (.int .i64 k) ∧ w'.cell? ⟨w.heap.size + 1, 1, none⟩ = some (.int .u64 n) ∧ KS w k n k n w') (first | exact ks_S hS | exact ks_S hS.drew)
    (first
    | (go_at_call 7; ((with_reducible refine (ks_alive (ks_of (by assumption))).mono ?_); rintro e w1 ⟨rfl, hS⟩))
    | (go_at_call 12; (with_reducible refine (ks_text hn (ks_of (by assumption))).mono ?_); rintro e w1 ⟨rfl, hS⟩))
  go_wp2_with fail
  go_ret
  exact ⟨by simp, hS.2.2.1⟩

set_option maxRecDepth 100000 in
set_option maxHeartbeats 3200000 in
theorem back_nk (k n k' n' x : Int) (w : World) (hn : 0 ≤ n) (hn' : 0 ≤ n') (hx : u64ok x) (hT : Tab w) (hr : rightB k n = true) (hr' : rightB k' n' = true) (hk : ¬ k = k') :
    Calls Tryd.prog 4 #[val k n, val k' n', .int .u64 x] w fun e w' => e = .returned (.bool true) ∧ Below w.heap.size w w' := by
  have hf0 : (encE k n == 0) = true := by simp [encE, hr]
  have hf1 : (encE k n != 0) = false := by simp [encE, hr]
  obtain ⟨s, Hs⟩ : ∃ s, Hid (txt k n = s) := ⟨_, Lib.hid rfl⟩
  obtain ⟨s', Hs'⟩ : ∃ s, Hid (txt k' n' = s) := ⟨_, Lib.hid rfl⟩
  have hs1 : ¬ s = s' := fun e => hk (And.left <| txt_inj hn hn' hr hr' (Hs.out.trans (e.trans Hs'.out.symm)))
  have HS2 := Lib.hid (toList_ne hs1)
  have hk2 : (k == k') = false := by simpa using hk
  have hS := KS.start hT k n k' n'
  clear hT
  generalize hz : encV k n = z
  generalize hf : encE k n = f at hf0 hf1
  have Hz := Lib.hid hz
  have Hf := Lib.hid hf
  clear hz hf
  unfold val
  go_enter Tryd.func4, Tryd.ntmps4
  go_wp2_with fail
  refine (ks_decode hx hS).mono ?_
  rintro e w1 ⟨rfl, hS1⟩
  clear hS
  have hS := hS1.step (w1 := w1.alloc (.cells #[.int .i64 (decK x), .int .u64 (decN x)] 25)) ((Below.refl _ _).alloc (Nat.le_refl _) _)
  have hX := Blk.new w1 #[.int .i64 (decK x), .int .u64 (decN x)] 25
  clear hS1
  go_wp2_with fail
  generalize w1.alloc (.cells #[.int .i64 (decK x), .int .u64 (decN x)] 25) = W at *
  generalize w1.heap.size = b at *
  refine (enc_back hx W).mono ?_
  rintro e w2 ⟨rfl, hb2⟩
  have hS2 := hS.step hb2
  have hX2 := hX.below hb2 hX.lt
  clear hS hX hb2
  have c0 := hX2.cell (i := 0) rfl
  have c1 := hX2.cell (i := 1) rfl
  go_wp2_with fail
  refine (right_back hx w2).mono ?_
  rintro e w3 ⟨rfl, hb3⟩
  have hS := hS2.step hb3
  clear hS2 hX2 hb3 c0 c1
  obtain ⟨c0, c1, c2, c3⟩ := hS.cells
  go_wp2_with fail
  refine (ks_encode_is hn Hz.out Hf.out hS).mono ?_
  rintro e w4 ⟨rfl, hS4⟩
  clear c0 c1 c2 c3 hS
  go_wp2_with fail
  go_region_held3 (fun w' => w'.cell? ⟨w.heap.size, 0, none⟩ = some (.int .i64 k) ∧ w'.cell? ⟨w.heap.size, 1, none⟩ = some (.int .u64 n) ∧ w'.cell? ⟨w.heap.size + 1, 0, none⟩ = some (.int .i64 k') ∧ w'.cell? ⟨w.heap.size + 1, 1, none⟩ = some (.int .u64 n') ∧ KS w k n k' n' w') (first | exact ks_S hS4 | exact ks_S hS4.drew)
    (first
    | (go_at_call 8; ((with_reducible refine (ks_right_is hr (ks_of (by assumption))).mono ?_); rintro e w1 ⟨rfl, hS4⟩))
    | (go_at_call 10; ((with_reducible refine (ks_decode_back hn hr Hz.out (ks_of (by assumption))).mono ?_); rintro e w1 ⟨rfl, hS4⟩)))
  obtain ⟨c0, c1, c2, c3⟩ := hS4.cells
  go_wp2_with fail
  refine (ks_right_is hr hS4).mono ?_
  rintro e w6 ⟨rfl, hS⟩
  clear hS4 c0 c1 c2 c3
  obtain ⟨c0, c1, c2, c3⟩ := hS.cells
  go_wp2_with fail
  refine (ks_right_is hr' hS).mono ?_
  rintro e w7 ⟨rfl, hS7⟩
  clear hS c0 c1 c2 c3
  have hS := hS7
  clear hS7
  go_wp2_with fail
  go_region_held3 (fun w' => w'.cell? ⟨w.heap.size, 0, none⟩ = some (.int .i64 k) ∧ w'.cell? ⟨w.heap.size, 1, none⟩ = some (.int .u64 n) ∧ w'.cell? ⟨w.heap.size + 1, 0, none⟩ = some (.int .i64 k') ∧ w'.cell? ⟨w.heap.size + 1, 1, none⟩ = some (.int .u64 n') ∧ KS w k n k' n' w') (first | exact ks_S hS | exact ks_S hS.drew)
    (first
    | (go_at_call 7; ((with_reducible refine (ks_alive (ks_of (by assumption))).mono ?_); rintro e w1 ⟨rfl, hS⟩))
    | (go_at_call 12; (first | (with_reducible refine (ks_text_is hn Hs.out (ks_of (by assumption))).mono ?_) | (with_reducible refine (ks_text_is hn' Hs'.out (ks_of (by assumption))).mono ?_)); rintro e w1 ⟨rfl, hS⟩))
  go_wp2_with fail
  go_ret
  exact ⟨by simpa using HS2.out, hS.2.2.1⟩

set_option maxRecDepth 100000 in
set_option maxHeartbeats 3200000 in
theorem back_nn (k n n' x : Int) (w : World) (hn : 0 ≤ n) (hn' : 0 ≤ n') (hx : u64ok x) (hT : Tab w) (hr : rightB k n = true) (hr' : rightB k n' = true) (hk : ¬ n = n') :
    Calls Tryd.prog 4 #[val k n, val k n', .int .u64 x] w fun e w' => e = .returned (.bool true) ∧ Below w.heap.size w w' := by
  have hf0 : (encE k n == 0) = true := by simp [encE, hr]
  have hf1 : (encE k n != 0) = false := by simp [encE, hr]
  obtain ⟨s, Hs⟩ : ∃ s, Hid (txt k n = s) := ⟨_, Lib.hid rfl⟩
  obtain ⟨s', Hs'⟩ : ∃ s, Hid (txt k n' = s) := ⟨_, Lib.hid rfl⟩
  have hs1 : ¬ s = s' := fun e => hk (And.right <| txt_inj hn hn' hr hr' (Hs.out.trans (e.trans Hs'.out.symm)))
  have HS2 := Lib.hid (toList_ne hs1)
  have hk2 : (n == n') = false := by simpa using hk
  have hS := KS.start hT k n k n'
  clear hT
  generalize hz : encV k n = z
  generalize hf : encE k n = f at hf0 hf1
  have Hz := Lib.hid hz
  have Hf := Lib.hid hf
  clear hz hf
  unfold val
  go_enter Tryd.func4, Tryd.ntmps4
  go_wp2_with fail
  refine (ks_decode hx hS).mono ?_
  rintro e w1 ⟨rfl, hS1⟩
  clear hS
  have hS := hS1.step (w1 := w1.alloc (.cells #[.int .i64 (decK x), .int .u64 (decN x)] 25)) ((Below.refl _ _).alloc (Nat.le_refl _) _)
  have hX := Blk.new w1 #[.int .i64 (decK x), .int .u64 (decN x)] 25
  clear hS1
  go_wp2_with fail
  generalize w1.alloc (.cells #[.int .i64 (decK x), .int .u64 (decN x)] 25) = W at *
  generalize w1.heap.size = b at *
  refine (enc_back hx W).mono ?_
  rintro e w2 ⟨rfl, hb2⟩
  have hS2 := hS.step hb2
  have hX2 := hX.below hb2 hX.lt
  clear hS hX hb2
  have c0 := hX2.cell (i := 0) rfl
  have c1 := hX2.cell (i := 1) rfl
  go_wp2_with fail
  refine (right_back hx w2).mono ?_
  rintro e w3 ⟨rfl, hb3⟩
  have hS := hS2.step hb3
  clear hS2 hX2 hb3 c0 c1
  obtain ⟨c0, c1, c2, c3⟩ := hS.cells
  go_wp2_with fail
  refine (ks_encode_is hn Hz.out Hf.out hS).mono ?_
  rintro e w4 ⟨rfl, hS4⟩
  clear c0 c1 c2 c3 hS
  go_wp2_with fail
  go_region_held3 (fun w' => w'.cell? ⟨w.heap.size, 0, none⟩ = some (.int .i64 k) ∧ w'.cell? ⟨w.heap.size, 1, none⟩ = some (.int .u64 n) ∧ w'.cell? ⟨w.heap.size + 1, 0, none⟩ = some (.int .i64 k) ∧ w'.cell? ⟨w.heap.size + 1, 1, none⟩ = some (.int .u64 n') ∧ KS w k n k n' w') (first | exact ks_S hS4 | exact ks_S hS4.drew)
    (first
    | (go_at_call 8; ((with_reducible refine (ks_right_is hr (ks_of (by assumption))).mono ?_); rintro e w1 ⟨rfl, hS4⟩))
    | (go_at_call 10; ((with_reducible refine (ks_decode_back hn hr Hz.out (ks_of (by assumption))).mono ?_); rintro e w1 ⟨rfl, hS4⟩)))
  obtain ⟨c0, c1, c2, c3⟩ := hS4.cells
  go_wp2_with fail
  refine (ks_right_is hr hS4).mono ?_
  rintro e w6 ⟨rfl, hS⟩
  clear hS4 c0 c1 c2 c3
  obtain ⟨c0, c1, c2, c3⟩ := hS.cells
  go_wp2_with fail
  refine (ks_right_is hr' hS).mono ?_
  rintro e w7 ⟨rfl, hS7⟩
  clear hS c0 c1 c2 c3
  have hS := hS7
  clear hS7
  go_wp2_with fail
  go_region_held3 (fun w' => w'.cell? ⟨w.heap.size, 0, none⟩ = some (.int .i64 k) ∧ w'.cell? ⟨w.heap.size, 1, none⟩ = some (.int .u64 n) ∧ w'.cell? ⟨w.heap.size + 1, 0, none⟩ = some (.int .i64 k) ∧ w'.cell? ⟨w.heap.size + 1, 1, none⟩ = some (.int .u64 n') ∧ KS w k n k n' w') (first | exact ks_S hS | exact ks_S hS.drew)
    (first
    | (go_at_call 7; ((with_reducible refine (ks_alive (ks_of (by assumption))).mono ?_); rintro e w1 ⟨rfl, hS⟩))
    | (go_at_call 12; (first | (with_reducible refine (ks_text_is hn Hs.out (ks_of (by assumption))).mono ?_) | (with_reducible refine (ks_text_is hn' Hs'.out (ks_of (by assumption))).mono ?_)); rintro e w1 ⟨rfl, hS⟩))
  go_wp2_with fail
  go_ret
  exact ⟨by simpa using HS2.out, hS.2.2.1⟩

theorem back_yes_yes (k n k' n' x : Int) (w : World) (hn : 0 ≤ n) (hn' : 0 ≤ n') (hx : u64ok x) (hT : Tab w) (hr : rightB k n = true) (hr' : rightB k' n' = true) :
    Calls Tryd.prog 4 #[val k n, val k' n', .int .u64 x] w fun e w' => e = .returned (.bool true) ∧ Below w.heap.size w w' := by
  by_cases hk : k = k'
  · subst hk
    by_cases h : n = n'
    · subst h
      exact back_eq k n x w hn hx hT hr
    · exact back_nn k n n' x w hn hn' hx hT hr hr' h
  · exact back_nk k n k' n' x w hn hn' hx hT hr hr' hk
end Go.Proofs.YtbdpjmamebeonaaDoor
