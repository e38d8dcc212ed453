/- alive; WordTells as a call. -/
import Derived.Test.YtbdpjmamebeonaaDoorWordF
import Derived.Deep.RegionHeld3
namespace Go.Proofs.YtbdpjmamebeonaaDoor
open Go.RowKit

section
variable {w W w1 : World} {k n : Int}
/-- All that there was is as it was; the table lies. -/
def AS (w W : World) : Prop := Below w.heap.size w W ∧ Tab W
theorem AS.step (h : AS w W) (hb : Below W.heap.size W w1) : AS w w1 := ⟨below_more h.1 hb, tab_below h.2 hb⟩
theorem AS.drew (h : AS w W) : AS w W.drew := ⟨below_drewN h.1 1, h.2⟩
theorem as_encode (h : AS w W) (k n x e : Int) (hn : 0 ≤ n) (hx : encV k n = x) (he : encE k n = e) : Calls Tryd.prog 5 #[.agg #[.int .i64 k, .int .u64 n]] W fun r w' => r = .returned (.tuple #[.int .u64 x, .int .i64 e]) ∧ AS w w' := by
  subst hx he
  exact (encode_any k n W hn).mono fun _ _ ⟨he, hb⟩ => ⟨he, h.step hb⟩
theorem as_decode (h : AS w W) (x k n : Int) (hx : u64ok x) (hk : decK x = k) (hn : decN x = n) : Calls Tryd.prog 10 #[.int .u64 x] W fun r w' => r = .returned (.agg #[.int .i64 k, .int .u64 n]) ∧ AS w w' := by
  subst hk hn
  exact (decode_any x W hx).mono fun _ _ ⟨he, hb⟩ => ⟨he, h.step hb⟩
theorem as_text (h : AS w W) (k n : Int) (s : ByteArray) (hn : 0 ≤ n) (hs : txt k n = s) : Calls Tryd.prog 12 #[.agg #[.int .i64 k, .int .u64 n]] W fun r w' => r = .returned (.string s) ∧ AS w w' := by
  subst hs
  exact (text_any k n W hn h.2).mono fun _ _ ⟨he, hb⟩ => ⟨he, h.step hb⟩
end
theorem txt7 : txt 2 7 = ⟨#[64, 55]⟩ := by
  have e : figs 7 = ⟨#[55]⟩ := by
    unfold figs
    rw [Lib.decDigits_one (by decide)]
    rfl
  rw [txt_ptr (by decide), e]
  rfl

set_option maxRecDepth 100000 in
set_option maxHeartbeats 800000 in
theorem alive_any (w : World) (hT : Tab w) :
    Calls Tryd.prog 7 #[] w fun e w' => e = .returned (.bool true) ∧ Below w.heap.size w w' := by
  have hA : AS w w := ⟨Below.refl _ _, hT⟩
  clear hT
  go_enter Tryd.func7, Tryd.ntmps7
  go_wp2_with fail
  refine (as_encode hA 1 5 11 0 (by decide) rfl rfl).mono ?_
  rintro e w1 ⟨rfl, hA1⟩
  go_wp2_with fail
  refine (as_encode hA1 2 0 2 0 (by decide) rfl rfl).mono ?_
  rintro e w2 ⟨rfl, hA2⟩
  go_wp2_with fail
  refine (as_encode hA2 0 1 0 1 (by decide) rfl rfl).mono ?_
  rintro e w3 ⟨rfl, hA3⟩
  go_wp2_with fail
  refine (as_encode hA3 2 9223372036854775807 0 1 (by decide) rfl rfl).mono ?_
  rintro e w4 ⟨rfl, hA4⟩
  go_wp2_with fail
  refine (as_decode hA4 8 2 3 (by unfold u64ok; decide) rfl rfl).mono ?_
  rintro e w5 ⟨rfl, hA5⟩
  go_wp2_with fail
  refine (as_decode hA5 0 0 0 (by unfold u64ok; decide) rfl rfl).mono ?_
  rintro e w6 ⟨rfl, hA6⟩
  go_wp2_with fail
  refine (as_text hA6 2 7 ⟨#[64, 55]⟩ (by decide) txt7).mono ?_
  rintro e w7 ⟨rfl, hA7⟩
  go_wp2_with fail
  refine (as_text hA7 0 0 ⟨#[110, 105, 108]⟩ (by decide) rfl).mono ?_
  rintro e w8 ⟨rfl, hA8⟩
  go_wp2_with fail
  go_ret
  exact ⟨rfl, hA8.1⟩

/-- The law's value lies in its own block; all that there was is as it was; the table lies. -/
def HS (w : World) (k n : Int) (W : World) : Prop := Blk W w.heap.size 25 [.int .i64 k, .int .u64 n] ∧ AS w W
section
variable {w W w1 : World} {k n : Int}
theorem HS.step (h : HS w k n W) (hb : Below W.heap.size W w1) : HS w k n w1 := ⟨h.1.below hb h.1.lt, h.2.step hb⟩
theorem HS.drew (h : HS w k n W) : HS w k n W.drew := ⟨h.1.drew, h.2.drew⟩
theorem HS.cells (h : HS w k n W) : W.cell? ⟨w.heap.size, 0, none⟩ = some (.int .i64 k) ∧ W.cell? ⟨w.heap.size, 1, none⟩ = some (.int .u64 n) :=
  ⟨h.1.cell (i := 0) rfl, h.1.cell (i := 1) rfl⟩
theorem HS.start (hT : Tab w) (k n : Int) : HS w k n (w.alloc (.cells #[.int .i64 k, .int .u64 n] 25)) := ⟨Blk.new w _ _, below_val w k n, tab_below hT (below_val w k n)⟩
theorem hs_S (h : HS w k n W) : W.cell? ⟨w.heap.size, 0, none⟩ = some (.int .i64 k) ∧ W.cell? ⟨w.heap.size, 1, none⟩ = some (.int .u64 n) ∧ HS w k n W :=
  ⟨h.cells.1, h.cells.2, h⟩
theorem hs_of (h : W.cell? ⟨w.heap.size, 0, none⟩ = some (.int .i64 k) ∧ W.cell? ⟨w.heap.size, 1, none⟩ = some (.int .u64 n) ∧ HS w k n W) : HS w k n W := h.2.2
theorem hs_encode (hn : 0 ≤ n) (h : HS w k n W) : Calls Tryd.prog 5 #[.agg #[.int .i64 k, .int .u64 n]] W fun e w' => e = .returned (.tuple #[.int .u64 (encV k n), .int .i64 (encE k n)]) ∧ HS w k n w' :=
  (encode_any k n W hn).mono fun _ _ ⟨he, hb⟩ => ⟨he, h.step hb⟩
theorem hs_rencode (hn : 0 ≤ n) (h : HS w k n W) : Calls Tryd.prog 6 #[.agg #[.int .i64 k, .int .u64 n]] W fun e w' => e = .returned (.tuple #[.int .u64 (encV k n), .int .i64 (encE k n)]) ∧ HS w k n w' :=
  (rencode_any k n W hn).mono fun _ _ ⟨he, hb⟩ => ⟨he, h.step hb⟩
theorem hs_right (h : HS w k n W) : Calls Tryd.prog 8 #[.agg #[.int .i64 k, .int .u64 n]] W fun e w' => e = .returned (.bool (rightB k n)) ∧ HS w k n w' :=
  (right_any k n W).mono fun _ _ ⟨he, hb⟩ => ⟨he, h.step hb⟩
theorem hs_rright (h : HS w k n W) : Calls Tryd.prog 9 #[.agg #[.int .i64 k, .int .u64 n]] W fun e w' => e = .returned (.bool (rightB k n)) ∧ HS w k n w' :=
  (rright_any k n W).mono fun _ _ ⟨he, hb⟩ => ⟨he, h.step hb⟩
theorem hs_text (hn : 0 ≤ n) (h : HS w k n W) : Calls Tryd.prog 12 #[.agg #[.int .i64 k, .int .u64 n]] W fun e w' => e = .returned (.string (txt k n)) ∧ HS w k n w' :=
  (text_any k n W hn h.2.2).mono fun _ _ ⟨he, hb⟩ => ⟨he, h.step hb⟩
theorem hs_rtext (hn : 0 ≤ n) (h : HS w k n W) : Calls Tryd.prog 13 #[.agg #[.int .i64 k, .int .u64 n]] W fun e w' => e = .returned (.string (txt k n)) ∧ HS w k n w' :=
  (rtext_any k n W hn).mono fun _ _ ⟨he, hb⟩ => ⟨he, h.step hb⟩
theorem hs_decode {x : Int} (hx : u64ok x) (h : HS w k n W) : Calls Tryd.prog 10 #[.int .u64 x] W fun e w' => e = .returned (.agg #[.int .i64 (decK x), .int .u64 (decN x)]) ∧ HS w k n w' :=
  (decode_any x W hx).mono fun _ _ ⟨he, hb⟩ => ⟨he, h.step hb⟩
theorem hs_rdecode {x : Int} (hx : u64ok x) (h : HS w k n W) : Calls Tryd.prog 11 #[.int .u64 x] W fun e w' => e = .returned (.agg #[.int .i64 (decK x), .int .u64 (decN x)]) ∧ HS w k n w' :=
  (rdecode_any x W hx).mono fun _ _ ⟨he, hb⟩ => ⟨he, h.step hb⟩
theorem hs_alive (h : HS w k n W) : Calls Tryd.prog 7 #[] W fun e w' => e = .returned (.bool true) ∧ HS w k n w' :=
  (alive_any W h.2.2).mono fun _ _ ⟨he, hb⟩ => ⟨he, h.step hb⟩
end

set_option maxRecDepth 100000 in
set_option maxHeartbeats 1600000 in
theorem tells_any (k n x : Int) (w : World) (hn : 0 ≤ n) (hx : u64ok x) (hT : Tab w) :
    Calls Tryd.prog 3 #[val k n, .int .u64 x] w fun e w' => e = .returned (.bool true) ∧ Below w.heap.size w w' := by
  have hS := HS.start hT k n
  clear hT
  unfold val
  go_enter Tryd.func3, Tryd.ntmps3
  go_wp2_with fail
  refine (hs_encode hn hS).mono ?_
  rintro e w1 ⟨rfl, hS1⟩
  obtain ⟨c0, c1⟩ := hS1.cells
  clear hS
  go_wp2_with fail
  refine (hs_rencode hn hS1).mono ?_
  rintro e w2 ⟨rfl, hS⟩
  clear c0 c1 hS1
  go_wp2_with fail
  go_region_held3 (fun w' => w'.cell? ⟨w.heap.size, 0, none⟩ = some (.int .i64 k) ∧ w'.cell? ⟨w.heap.size, 1, none⟩ = some (.int .u64 n) ∧ HS w k n w') (first | exact hs_S hS | exact hs_S hS.drew)
    (first
    | (go_at_call 7; ((with_reducible refine (hs_alive (hs_of (by assumption))).mono ?_); rintro e w1 ⟨rfl, hS⟩))
    | (go_at_call 8; ((with_reducible refine (hs_right (hs_of (by assumption))).mono ?_); rintro e w1 ⟨rfl, hS⟩))
    | (go_at_call 9; ((with_reducible refine (hs_rright (hs_of (by assumption))).mono ?_); rintro e w1 ⟨rfl, hS⟩))
    | (go_at_call 10; ((with_reducible refine (hs_decode hx (hs_of (by assumption))).mono ?_); rintro e w1 ⟨rfl, hS⟩))
    | (go_at_call 11; ((with_reducible refine (hs_rdecode hx (hs_of (by assumption))).mono ?_); rintro e w1 ⟨rfl, hS⟩))
    | (go_at_call 12; ((with_reducible refine (hs_text hn (hs_of (by assumption))).mono ?_); rintro e w1 ⟨rfl, hS⟩))
    | (go_at_call 13; ((with_reducible refine (hs_rtext hn (hs_of (by assumption))).mono ?_); rintro e w1 ⟨rfl, hS⟩)))
  go_wp2_with fail
  go_ret
  exact ⟨by simp, hS.2.1⟩
end Go.Proofs.YtbdpjmamebeonaaDoor
