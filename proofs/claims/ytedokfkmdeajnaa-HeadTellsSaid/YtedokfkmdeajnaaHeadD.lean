/- HeadTells and HeadBack as calls. -/
import Derived.Test.YtedokfkmdeajnaaHeadC
import Derived.Deep.RegionHeld3
namespace Go.Proofs.Ytedokfkmdeajnaa
open Go.RowKit

/-- The law's header lies in its own block; all that there was is as it was. -/
def HS (w : World) (g c : Int) (u : Bool) (W : World) : Prop := Blk W w.heap.size 23 [.int .i64 g, .int .i64 c, .bool u] ∧ Below w.heap.size w W
section
variable {w W w1 : World} {g c : Int} {u : Bool}
theorem HS.step (h : HS w g c u W) (hb : Below W.heap.size W w1) : HS w g c u w1 := ⟨h.1.below hb h.1.lt, below_more h.2 hb⟩
theorem HS.drew (h : HS w g c u W) : HS w g c u W.drew := ⟨h.1.drew, below_drewN h.2 1⟩
theorem HS.cells (h : HS w g c u W) : W.cell? ⟨w.heap.size, 0, none⟩ = some (.int .i64 g) ∧ W.cell? ⟨w.heap.size, 1, none⟩ = some (.int .i64 c) ∧ W.cell? ⟨w.heap.size, 2, none⟩ = some (.bool u) :=
  ⟨h.1.cell (i := 0) rfl, h.1.cell (i := 1) rfl, h.1.cell (i := 2) rfl⟩
theorem HS.start (w : World) (g c : Int) (u : Bool) : HS w g c u (w.alloc (.cells #[.int .i64 g, .int .i64 c, .bool u] 23)) := ⟨Blk.new w _ _, (Below.refl _ _).alloc (Nat.le_refl _) _⟩
theorem hs_S (h : HS w g c u W) : W.cell? ⟨w.heap.size, 0, none⟩ = some (.int .i64 g) ∧ W.cell? ⟨w.heap.size, 1, none⟩ = some (.int .i64 c) ∧ W.cell? ⟨w.heap.size, 2, none⟩ = some (.bool u) ∧ HS w g c u W :=
  ⟨h.cells.1, h.cells.2.1, h.cells.2.2, h⟩
theorem hs_of (h : W.cell? ⟨w.heap.size, 0, none⟩ = some (.int .i64 g) ∧ W.cell? ⟨w.heap.size, 1, none⟩ = some (.int .i64 c) ∧ W.cell? ⟨w.heap.size, 2, none⟩ = some (.bool u) ∧ HS w g c u W) : HS w g c u W := h.2.2.2
theorem hs_encode (h : HS w g c u W) (g' c' : Int) (u' : Bool) : Calls Try.prog 5 #[.agg #[.int .i64 g', .int .i64 c', .bool u']] W fun e w' => e = .returned (.tuple #[.int .u64 (encV g' c' u'), .int .i64 (encE g' c')]) ∧ HS w g c u w' :=
  (encode_any g' c' u' W).mono fun _ _ ⟨he, hb⟩ => ⟨he, h.step hb⟩
theorem hs_rencode (h : HS w g c u W) : Calls Try.prog 6 #[.agg #[.int .i64 g, .int .i64 c, .bool u]] W fun e w' => e = .returned (.tuple #[.int .u64 (encV g c u), .int .i64 (encE g c)]) ∧ HS w g c u w' :=
  (rencode_any g c u W).mono fun _ _ ⟨he, hb⟩ => ⟨he, h.step hb⟩
theorem hs_right (h : HS w g c u W) (g' c' : Int) (u' : Bool) : Calls Try.prog 8 #[.agg #[.int .i64 g', .int .i64 c', .bool u']] W fun e w' => e = .returned (.bool (rightB g' c')) ∧ HS w g c u w' :=
  (right_any g' c' u' W).mono fun _ _ ⟨he, hb⟩ => ⟨he, h.step hb⟩
theorem hs_rright (h : HS w g c u W) : Calls Try.prog 9 #[.agg #[.int .i64 g, .int .i64 c, .bool u]] W fun e w' => e = .returned (.bool (rightB g c)) ∧ HS w g c u w' :=
  (rright_any g c u W).mono fun _ _ ⟨he, hb⟩ => ⟨he, h.step hb⟩
theorem hs_decode {x : Int} (hx : u64ok x) (h : HS w g c u W) : Calls Try.prog 10 #[.int .u64 x] W fun e w' => e = .returned (.agg #[.int .i64 (decG x), .int .i64 (decC x), .bool (decU x)]) ∧ HS w g c u w' :=
  (decode_any x W hx).mono fun _ _ ⟨he, hb⟩ => ⟨he, h.step hb⟩
theorem hs_rdecode {x : Int} (hx : u64ok x) (h : HS w g c u W) : Calls Try.prog 11 #[.int .u64 x] W fun e w' => e = .returned (.agg #[.int .i64 (decG x), .int .i64 (decC x), .bool (decU x)]) ∧ HS w g c u w' :=
  (rdecode_any x W hx).mono fun _ _ ⟨he, hb⟩ => ⟨he, h.step hb⟩
theorem hs_alive (h : HS w g c u W) : Calls Try.prog 7 #[] W fun e w' => e = .returned (.bool true) ∧ HS w g c u w' :=
  (alive_any W).mono fun _ _ ⟨he, hb⟩ => ⟨he, h.step hb⟩
end

set_option maxRecDepth 100000 in
set_option maxHeartbeats 1600000 in
theorem tells_any (g c : Int) (u : Bool) (x : Int) (w : World) (hx : u64ok x) :
    Calls Try.prog 3 #[hdr g c u, .int .u64 x] w fun e w' => e = .returned (.bool true) ∧ Below w.heap.size w w' := by
  have hS := HS.start w g c u
  unfold hdr
  go_enter Try.func3, Try.ntmps3
  go_wp2_with fail
  refine (hs_encode hS _ _ _).mono ?_
  rintro e w1 ⟨rfl, hS1⟩
  obtain ⟨c0, c1, c2⟩ := hS1.cells
  clear hS
  go_wp2_with fail
  refine (hs_rencode hS1).mono ?_
  rintro e w2 ⟨rfl, hS⟩
  clear c0 c1 c2 hS1
  go_wp2_with fail
  go_region_held3 (fun w' => w'.cell? ⟨w.heap.size, 0, none⟩ = some (.int .i64 g) ∧ w'.cell? ⟨w.heap.size, 1, none⟩ = some (.int .i64 c) ∧ w'.cell? ⟨w.heap.size, 2, none⟩ = some (.bool u) ∧ HS w g c u w') (first | exact hs_S hS | exact hs_S hS.drew)
    (first
    | (go_at_call 7; ((with_reducible refine (hs_alive (hs_of (by assumption))).mono ?_); rintro e w1 ⟨rfl, hS⟩))
    | (go_at_call 8; ((with_reducible refine (hs_right (hs_of (by assumption)) _ _ _).mono ?_); rintro e w1 ⟨rfl, hS⟩))
    | (go_at_call 9; ((with_reducible refine (hs_rright (hs_of (by assumption))).mono ?_); rintro e w1 ⟨rfl, hS⟩))
    | (go_at_call 10; ((with_reducible refine (hs_decode hx (hs_of (by assumption))).mono ?_); rintro e w1 ⟨rfl, hS⟩))
    | (go_at_call 11; ((with_reducible refine (hs_rdecode hx (hs_of (by assumption))).mono ?_); rintro e w1 ⟨rfl, hS⟩)))
  go_wp2_with fail
  go_ret
  exact ⟨by simp, hS.2⟩
end Go.Proofs.Ytedokfkmdeajnaa
