/- HeadBack as a call. -/
import Derived.Test.YtedokfkmdeajnaaHeadD
namespace Go.Proofs.Ytedokfkmdeajnaa
open Go.RowKit

theorem back1 {x : Int} (hx : u64ok x) : rightB (decG x) (decC x) = true ∧ encZ (decG x) (decC x) (decU x) = x := by
  unfold u64ok at hx
  have q : 0 ≤ decG x ∧ decG x ≤ 4294967295 ∧ 0 ≤ decC x ∧ decC x ≤ 2147483647 := by unfold decG decC; omega
  refine ⟨by simpa [rightB, withinB, and_assoc] using q, ?_⟩
  clear q
  unfold encZ decG decC
  cases h : decU x
  · have : ¬ x / 2147483648 % 2 = 1 := by simpa [decU] using h
    simp [bitZ]; omega
  · have : x / 2147483648 % 2 = 1 := by simpa [decU] using h
    simp [bitZ]; omega
theorem back2 {g c : Int} (u : Bool) (h : rightB g c = true) : u64ok (encZ g c u) ∧ decG (encZ g c u) = g ∧ decC (encZ g c u) = c ∧ decU (encZ g c u) = u := by
  obtain ⟨h0, h1, h2, h3⟩ := Right_ok h
  cases u
  · have e : encZ g c false = 4294967296 * g + c := by simp [encZ, bitZ]
    rw [e]
    refine ⟨by unfold u64ok; omega, by unfold decG; omega, by unfold decC; omega, ?_⟩
    have : (4294967296 * g + c) / 2147483648 % 2 = 0 := by omega
    simp [decU, this]
  · have e : encZ g c true = 4294967296 * g + 2147483648 + c := by simp [encZ, bitZ]
    rw [e]
    refine ⟨by unfold u64ok; omega, by unfold decG; omega, by unfold decC; omega, ?_⟩
    have : (4294967296 * g + 2147483648 + c) / 2147483648 % 2 = 1 := by omega
    simp [decU, this]
section
variable {w W w1 : World} {g c : Int} {u : Bool}
theorem hs_enc_back {x : Int} (hx : u64ok x) (W : World) : Calls Try.prog 5 #[.agg #[.int .i64 (decG x), .int .i64 (decC x), .bool (decU x)]] W fun e w' => e = .returned (.tuple #[.int .u64 x, .int .i64 0]) ∧ Below W.heap.size W w' :=
  (encode_yes (decG x) (decC x) (decU x) W (back1 hx).1).mono fun _ _ ⟨he, hb⟩ => ⟨by rw [he, (back1 hx).2], hb⟩
theorem hs_right_back {x : Int} (hx : u64ok x) (W : World) : Calls Try.prog 8 #[.agg #[.int .i64 (decG x), .int .i64 (decC x), .bool (decU x)]] W fun e w' => e = .returned (.bool true) ∧ Below W.heap.size W w' :=
  (right_any (decG x) (decC x) (decU x) W).mono fun _ _ ⟨he, hb⟩ => ⟨by rw [he, (back1 hx).1], hb⟩
theorem hs_encode_is {z f : Int} (hz : encV g c u = z) (hf : encE g c = f) (h : HS w g c u W) : Calls Try.prog 5 #[.agg #[.int .i64 g, .int .i64 c, .bool u]] W fun e w' => e = .returned (.tuple #[.int .u64 z, .int .i64 f]) ∧ HS w g c u w' :=
  (encode_any g c u W).mono fun _ _ ⟨he, hb⟩ => ⟨by rw [he, hz, hf], h.step hb⟩
theorem hs_right_is {r : Bool} (hr : rightB g c = r) (h : HS w g c u W) : Calls Try.prog 8 #[.agg #[.int .i64 g, .int .i64 c, .bool u]] W fun e w' => e = .returned (.bool r) ∧ HS w g c u w' :=
  (right_any g c u W).mono fun _ _ ⟨he, hb⟩ => ⟨by rw [he, hr], h.step hb⟩
theorem hs_decode_back {z : Int} (hr : rightB g c = true) (hz : encV g c u = z) (h : HS w g c u W) : Calls Try.prog 10 #[.int .u64 z] W fun e w' => e = .returned (.agg #[.int .i64 g, .int .i64 c, .bool u]) ∧ HS w g c u w' := by
  obtain ⟨h1, h2, h3, h4⟩ := back2 u hr
  have e : z = encZ g c u := by rw [← hz]; simp [encV, hr]
  subst e
  refine (decode_any (encZ g c u) W h1).mono fun _ _ ⟨he, hb⟩ => ⟨?_, h.step hb⟩
  rw [he, h2, h3, h4]; rfl
end

set_option maxRecDepth 100000 in
set_option maxHeartbeats 1600000 in
theorem back_any (g c : Int) (u : Bool) (x : Int) (w : World) (hx : u64ok x) :
    Calls Try.prog 4 #[hdr g c u, .int .u64 x] w fun e w' => e = .returned (.bool true) ∧ Below w.heap.size w w' := by
  have hS := HS.start w g c u
  unfold hdr
  cases hr : rightB g c
  · have hf0 : (encE g c == 0) = false := by simp [encE, hr]
    have hf1 : (encE g c != 0) = true := by simp [encE, hr]
    generalize hz : encV g c u = z
    generalize hf : encE g c = f at hf0 hf1
    have Hz := Lib.hid hz
    have Hf := Lib.hid hf
    clear hz hf
    go_enter Try.func4, Try.ntmps4
    go_wp2_with fail
    refine (hs_decode hx hS).mono ?_
    rintro e w1 ⟨rfl, hS1⟩
    clear hS
    have hS := hS1.step (w1 := w1.alloc (.cells #[.int .i64 (decG x), .int .i64 (decC x), .bool (decU x)] 23)) ((Below.refl _ _).alloc (Nat.le_refl _) _)
    have hX := Blk.new w1 #[.int .i64 (decG x), .int .i64 (decC x), .bool (decU x)] 23
    clear hS1
    go_wp2_with fail
    generalize w1.alloc (.cells #[.int .i64 (decG x), .int .i64 (decC x), .bool (decU x)] 23) = W at *
    generalize w1.heap.size = b at *
    refine (hs_enc_back hx W).mono ?_
    rintro e w2 ⟨rfl, hb2⟩
    have hS2 := hS.step hb2
    have hX2 := hX.below hb2 hX.lt
    clear hS hX hb2
    have c0 := hX2.cell (i := 0) rfl
    have c1 := hX2.cell (i := 1) rfl
    have c2 := hX2.cell (i := 2) rfl
    go_wp2_with fail
    refine (hs_right_back hx w2).mono ?_
    rintro e w3 ⟨rfl, hb3⟩
    have hS := hS2.step hb3
    clear hS2 hX2 hb3 c0 c1 c2
    obtain ⟨c0, c1, c2⟩ := hS.cells
    go_wp2_with fail
    refine (hs_encode_is Hz.out Hf.out hS).mono ?_
    rintro e w4 ⟨rfl, hS4⟩
    clear c0 c1 c2 hS
    go_wp2_with fail
    obtain ⟨c0, c1, c2⟩ := hS4.cells
    first
    | (go_region_with (first
        | (go_at_call 7; (first | (with_reducible refine (hs_alive hS4).mono ?_) | (with_reducible refine (hs_alive hS4.drew).mono ?_)); rintro e w5 ⟨rfl, hS5⟩; obtain ⟨c0, c1, c2⟩ := hS5.cells)
        | (go_at_call 8; (with_reducible refine (hs_right_is hr hS5).mono ?_); rintro e w6 ⟨rfl, hS6⟩; obtain ⟨c0, c1, c2⟩ := hS6.cells)))
    | fail
    all_goals go_wp2_with fail
    all_goals go_ret
    all_goals exact ⟨rfl, hS6.2⟩
  · have hf0 : (encE g c == 0) = true := by simp [encE, hr]
    have hf1 : (encE g c != 0) = false := by simp [encE, hr]
    generalize hz : encV g c u = z
    generalize hf : encE g c = f at hf0 hf1
    have Hz := Lib.hid hz
    have Hf := Lib.hid hf
    clear hz hf
    go_enter Try.func4, Try.ntmps4
    go_wp2_with fail
    refine (hs_decode hx hS).mono ?_
    rintro e w1 ⟨rfl, hS1⟩
    clear hS
    have hS := hS1.step (w1 := w1.alloc (.cells #[.int .i64 (decG x), .int .i64 (decC x), .bool (decU x)] 23)) ((Below.refl _ _).alloc (Nat.le_refl _) _)
    have hX := Blk.new w1 #[.int .i64 (decG x), .int .i64 (decC x), .bool (decU x)] 23
    clear hS1
    go_wp2_with fail
    generalize w1.alloc (.cells #[.int .i64 (decG x), .int .i64 (decC x), .bool (decU x)] 23) = W at *
    generalize w1.heap.size = b at *
    refine (hs_enc_back hx W).mono ?_
    rintro e w2 ⟨rfl, hb2⟩
    have hS2 := hS.step hb2
    have hX2 := hX.below hb2 hX.lt
    clear hS hX hb2
    have c0 := hX2.cell (i := 0) rfl
    have c1 := hX2.cell (i := 1) rfl
    have c2 := hX2.cell (i := 2) rfl
    go_wp2_with fail
    refine (hs_right_back hx w2).mono ?_
    rintro e w3 ⟨rfl, hb3⟩
    have hS := hS2.step hb3
    clear hS2 hX2 hb3 c0 c1 c2
    obtain ⟨c0, c1, c2⟩ := hS.cells
    go_wp2_with fail
    refine (hs_encode_is Hz.out Hf.out hS).mono ?_
    rintro e w4 ⟨rfl, hS4⟩
    clear c0 c1 c2 hS
    go_wp2_with fail
    go_region_held3 (fun w' => w'.cell? ⟨w.heap.size, 0, none⟩ = some (.int .i64 g) ∧ w'.cell? ⟨w.heap.size, 1, none⟩ = some (.int .i64 c) ∧ w'.cell? ⟨w.heap.size, 2, none⟩ = some (.bool u) ∧ HS w g c u w') (first | exact hs_S hS4 | exact hs_S hS4.drew)
      (first
      | (go_at_call 7; ((with_reducible refine (hs_alive (hs_of (by assumption))).mono ?_); rintro e w1 ⟨rfl, hS4⟩))
      | (go_at_call 8; ((with_reducible refine (hs_right_is hr (hs_of (by assumption))).mono ?_); rintro e w1 ⟨rfl, hS4⟩))
      | (go_at_call 10; ((with_reducible refine (hs_decode_back hr Hz.out (hs_of (by assumption))).mono ?_); rintro e w1 ⟨rfl, hS4⟩)))
    go_wp2_with fail
    go_ret
    exact ⟨by simp, hS4.2⟩
end Go.Proofs.Ytedokfkmdeajnaa
