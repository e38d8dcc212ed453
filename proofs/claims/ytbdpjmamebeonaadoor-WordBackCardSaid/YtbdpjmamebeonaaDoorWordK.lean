/- WordBack, where the second value may not be. -/
import Derived.Test.YtbdpjmamebeonaaDoorWordI
namespace Go.Proofs.YtbdpjmamebeonaaDoor
open Go.RowKit

set_option maxRecDepth 100000 in
set_option maxHeartbeats 3200000 in
theorem back_yes_no (k n k' n' x : Int) (w : World) (hn : 0 ≤ n) (hx : u64ok x) (hT : Tab w) (hr : rightB k n = true) (hr' : rightB k' n' = false) :
    Calls Tryd.prog 4 #[val k n, val k' n', .int .u64 x] w fun e w' => e = .returned (.bool true) ∧ Below w.heap.size w w' := by
  have hf0 : (encE k n == 0) = true := by simp [encE, hr]
  have hf1 : (encE k n != 0) = false := by simp [encE, hr]
  have hS := KS.start hT k n k' n'
  clear hT
  generalize hz : encV k n = z
  generalize hf : encE k n = f at hf0 hf1
  have Hz := Lib.hid hz
  have Hf := Lib.hid hf
  clear hz hf
  unfold val
  go_enter Tryd.func4, Tryd.ntmps4
  go_wp2_with fail
  refine (ks_decode hx hS).mono ?_
  rintro e w1 ⟨rfl, hS1⟩
  clear hS
  have hS := hS1.step (w1 := w1.alloc (.cells #[.int .i64 (decK x), .int .u64 (decN x)] 25)) ((Below.refl _ _).alloc (Nat.le_refl _) _)
  have hX := Blk.new w1 #[.int .i64 (decK x), .int .u64 (decN x)] 25
  clear hS1
  go_wp2_with fail
  generalize w1.alloc (.cells #[.int .i64 (decK x), .int .u64 (decN x)] 25) = W at *
  generalize w1.heap.size = b at *
  refine (enc_back hx W).mono ?_
  rintro e w2 ⟨rfl, hb2⟩
  have hS2 := hS.step hb2
  have hX2 := hX.below hb2 hX.lt
  clear hS hX hb2
  have c0 := hX2.cell (i := 0) rfl
  have c1 := hX2.cell (i := 1) rfl
  go_wp2_with fail
  refine (right_back hx w2).mono ?_
  rintro e w3 ⟨rfl, hb3⟩
  have hS := hS2.step hb3
  clear hS2 hX2 hb3 c0 c1
  obtain ⟨c0, c1, c2, c3⟩ := hS.cells
  go_wp2_with fail
  refine (ks_encode_is hn Hz.out Hf.out hS).mono ?_
  rintro e w4 ⟨rfl, hS4⟩
  clear c0 c1 c2 c3 hS
  go_wp2_with fail
  go_region_held3 (fun w' => w'.cell? ⟨w.heap.size, 0, none⟩ = some (.int .i64 k) ∧ w'.cell? ⟨w.heap.size, 1, none⟩ = some (.int .u64 n) ∧ w'.cell? ⟨w.heap.size + 1, 0, none⟩ = some (.int .i64 k') ∧ w'.cell? ⟨w.heap.size + 1, 1, none⟩ = some (.int .u64 n') ∧ KS w k n k' n' w') (first | exact ks_S hS4 | exact ks_S hS4.drew)
    (first
    | (go_at_call 8; ((with_reducible refine (ks_right_is hr (ks_of (by assumption))).mono ?_); rintro e w1 ⟨rfl, hS4⟩))
    | (go_at_call 10; ((with_reducible refine (ks_decode_back hn hr Hz.out (ks_of (by assumption))).mono ?_); rintro e w1 ⟨rfl, hS4⟩)))
  obtain ⟨c0, c1, c2, c3⟩ := hS4.cells
  go_wp2_with fail
  refine (ks_right_is hr hS4).mono ?_
  rintro e w6 ⟨rfl, hS⟩
  clear hS4 c0 c1 c2 c3
  obtain ⟨c0, c1, c2, c3⟩ := hS.cells
  go_wp2_with fail
  refine (ks_right_is hr' hS).mono ?_
  rintro e w7 ⟨rfl, hS7⟩
  clear hS c0 c1 c2 c3
  have hS := hS7
  clear hS7
  obtain ⟨c0, c1, c2, c3⟩ := hS.cells
  go_wp2_with fail
  clear c0 c1 c2 c3
  all_goals
    refine wp_region_any (by kernel_rfl) ?_
    (try (change wpAny _ _ _ _ _ _ _ (World.drew _)))
    refine wpAny_ready (rs := [0]) (by kernel_rfl) (by simp) ?_
    refine AllReady.cons rfl (fun K hK => ?_) AllReady.nil
    go_simp
    go_wp2_with (go_at_call 7; (with_reducible refine (ks_alive hS.drew).mono ?_); rintro e w8 ⟨rfl, hS8⟩)
    refine wpAny_take (i := 1) (v := .bool true) rfl (by kernel_rfl) (by kernel_rfl) (by kernel_rfl) (fun _ _ _ h => h) (Or.inl ⟨by kernel_rfl, fun w => by go_simp⟩) ?_
    refine wpAny_take (i := 2) (v := .bool false) rfl (by kernel_rfl) (by kernel_rfl) (by kernel_rfl) (fun _ _ _ h => h) (Or.inl ⟨by kernel_rfl, fun w => by go_simp⟩) ?_
    refine wpAny_take (i := 3) (v := .bool true) rfl (by kernel_rfl) (by kernel_rfl) (by kernel_rfl) (fun _ _ _ h => h) (Or.inl ⟨by kernel_rfl, fun w => by go_simp⟩) ?_
    refine wpAny_take (i := 4) (v := .bool true) rfl (by kernel_rfl) (by kernel_rfl) (by kernel_rfl) (fun _ _ _ h => h) (Or.inl ⟨by kernel_rfl, fun w => by go_simp⟩) ?_
    refine wpAny_take (i := 5) (v := undef) rfl (by kernel_rfl) (by kernel_rfl) (by kernel_rfl) (fun _ _ _ h => h) (Or.inr ⟨by kernel_rfl, rfl⟩) ?_
    refine wpAny_take (i := 6) (v := undef) rfl (by kernel_rfl) (by kernel_rfl) (by kernel_rfl) (fun _ _ _ h => h) (Or.inr ⟨by kernel_rfl, rfl⟩) ?_
    refine wpAny_take (i := 7) (v := undef) rfl (by kernel_rfl) (by kernel_rfl) (by kernel_rfl) (fun _ _ _ h => h) (Or.inr ⟨by kernel_rfl, rfl⟩) ?_
    refine wpAny_take (i := 8) (v := undef) rfl (by kernel_rfl) (by kernel_rfl) (by kernel_rfl) (fun _ _ _ h => h) (Or.inr ⟨by kernel_rfl, rfl⟩) ?_
    refine wpAny_take (i := 9) (v := undef) rfl (by kernel_rfl) (by kernel_rfl) (by kernel_rfl) (fun _ _ _ h => h) (Or.inr ⟨by kernel_rfl, rfl⟩) ?_
    refine wpAny_take (i := 10) (v := undef) rfl (by kernel_rfl) (by kernel_rfl) (by kernel_rfl) (fun _ _ _ h => h) (Or.inr ⟨by kernel_rfl, rfl⟩) ?_
    refine wpAny_take (i := 11) (v := undef) rfl (by kernel_rfl) (by kernel_rfl) (by kernel_rfl) (fun _ _ _ h => h) (Or.inr ⟨by kernel_rfl, rfl⟩) ?_
    refine wpAny_take (i := 12) (v := undef) rfl (by kernel_rfl) (by kernel_rfl) (by kernel_rfl) (fun _ _ _ h => h) (Or.inr ⟨by kernel_rfl, rfl⟩) ?_
    refine wpAny_take (i := 13) (v := undef) rfl (by kernel_rfl) (by kernel_rfl) (by kernel_rfl) (fun _ _ _ h => h) (Or.inr ⟨by kernel_rfl, rfl⟩) ?_
    refine wpAny_take (i := 14) (v := .bool true) rfl (by kernel_rfl) (by kernel_rfl) (by kernel_rfl) (fun _ _ _ h => h) (Or.inl ⟨by kernel_rfl, fun w => by kernel_rfl⟩) ?_
    refine wpAny_take (i := 15) (v := .bool true) rfl (by kernel_rfl) (by kernel_rfl) (by kernel_rfl) (fun _ _ _ h => h) (Or.inl ⟨by kernel_rfl, fun w => by kernel_rfl⟩) ?_
    refine wpAny_take (i := 16) (v := .bool true) rfl (by kernel_rfl) (by kernel_rfl) (by kernel_rfl) (fun _ _ _ h => h) (Or.inl ⟨by kernel_rfl, fun w => by kernel_rfl⟩) ?_
    refine wpAny_done (by kernel_rfl) ?_ _
    refine ‹∀ (a : Act) (w : World), _ → _› _ _ ?_
    refine wp_ret ?_
    exact bodyPost_ret (v := .bool true) (by kernel_rfl) (by kernel_rfl) ⟨rfl, hS8.2.2.1⟩
end Go.Proofs.YtbdpjmamebeonaaDoor
