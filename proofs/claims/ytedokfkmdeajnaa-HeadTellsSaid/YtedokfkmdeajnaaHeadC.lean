/- The document's Encode, Decode; alive. -/
import Derived.Test.YtedokfkmdeajnaaHeadB
namespace Go.Proofs.Ytedokfkmdeajnaa
open Go.RowKit

def encV (g c : Int) (u : Bool) : Int := if rightB g c = true then encZ g c u else 0
def encE (g c : Int) : Int := if rightB g c = true then 0 else 1
theorem encode_any (g c : Int) (u : Bool) (w : World) :
    Calls Try.prog 5 #[hdr g c u] w fun e w' => e = .returned (.tuple #[.int .u64 (encV g c u), .int .i64 (encE g c)]) ∧ Below w.heap.size w w' := by
  cases h : rightB g c
  · simpa [encV, encE, h] using encode_no g c u w h
  · simpa [encV, encE, h] using encode_yes g c u w h

theorem renc_eq {g c : Int} (h : rightB g c = true) : IntKind.u64.wrap (IntKind.u64.wrap (4294967296 * IntKind.u64.wrap g) + IntKind.u64.wrap c) = encZ g c false ∧ IntKind.u64.wrap (encZ g c false + 2147483648) = encZ g c true := by
  obtain ⟨h0, h1, h2, h3⟩ := Right_ok h
  simp only [IntKind.wrap_u64, encZ, bitZ]
  constructor
  · simp; omega
  · simp; omega
set_option maxHeartbeats 400000 in
theorem rencode_any (g c : Int) (u : Bool) (w : World) :
    Calls Try.prog 6 #[hdr g c u] w fun e w' => e = .returned (.tuple #[.int .u64 (encV g c u), .int .i64 (encE g c)]) ∧ Below w.heap.size w w' := by
  have hb : Below w.heap.size w (w.alloc (.cells #[.int .i64 g, .int .i64 c, .bool u] 23)) := (Below.refl _ _).alloc (Nat.le_refl _) _
  unfold hdr
  cases hr : rightB g c
  · simp only [encV, encE, hr]
    go_enter Try.func6, Try.ntmps6
    go_wp2_with (go_at_call 9; refine (rright_any _ _ _ _).mono ?_; rintro e w1 ⟨rfl, hb1⟩)
    go_ret2
    exact ⟨rfl, below_more hb hb1⟩
  · simp only [encV, encE, hr]
    obtain ⟨e1, e2⟩ := renc_eq hr
    cases u
    all_goals
      go_enter Try.func6, Try.ntmps6
      go_wp2_with fail
      refine (rright_any _ _ _ _).mono ?_
      rintro e w1 ⟨rfl, hb1⟩
      have hb2 := below_more hb hb1
      have bl := (Blk.new w _ 23).below hb1 (by simp)
      have c0 := bl.cell (i := 0) rfl
      have c1 := bl.cell (i := 1) rfl
      have c2 := bl.cell (i := 2) rfl
      clear bl hb hb1
      go_wp2_with fail
      go_ret2
      exact ⟨rfl, hb2⟩

theorem rdec_eq {x : Int} (hx : u64ok x) : wrap64 (x / 4294967296) = decG x ∧ wrap64 (x % 4294967296 % 2147483648) = decC x ∧ decide (2147483648 ≤ x % 4294967296) = decU x := by
  unfold u64ok decG decC decU at *
  refine ⟨by rw [wrap64_of (by unfold i64ok; omega)], by rw [wrap64_of (by unfold i64ok; omega)]; omega, ?_⟩
  by_cases h : 2147483648 ≤ x % 4294967296
  · have : x / 2147483648 % 2 = 1 := by omega
    simp [h, this]
  · have : x / 2147483648 % 2 = 0 := by omega
    simp [h, this]
set_option maxHeartbeats 400000 in
theorem rdecode_any (x : Int) (w : World) (hx : u64ok x) :
    Calls Try.prog 11 #[.int .u64 x] w fun e w' => e = .returned (hdr (decG x) (decC x) (decU x)) ∧ Below w.heap.size w w' := by
  obtain ⟨e1, e2, e3⟩ := rdec_eq hx
  obtain ⟨x0, x1⟩ := hx
  unfold hdr
  go_enter Try.func11, Try.ntmps11
  go_wp2
  refine bodyPost_ret (results_cell_row rfl _ _ (w.heap.size) 23 _ (0, 0) _ rfl ?_ Try.underlying23 rfl (by kernel_rfl)) rfl ⟨rfl, by go_grown⟩
  exact heap_alloc_new _ _

set_option maxRecDepth 100000 in
set_option maxHeartbeats 400000 in
theorem alive_any (w : World) :
    Calls Try.prog 7 #[] w fun e w' => e = .returned (.bool true) ∧ Below w.heap.size w w' := by
  have e1 : ∀ W : World, Calls Try.prog 5 #[.agg #[.int .i64 2, .int .i64 3, .bool true]] W fun e w' => e = .returned (.tuple #[.int .u64 10737418243, .int .i64 0]) ∧ Below W.heap.size W w' := fun W =>
    (encode_any 2 3 true W).mono fun _ _ ⟨he, hb⟩ => ⟨he.trans rfl, hb⟩
  have e2 : ∀ W : World, Calls Try.prog 5 #[.agg #[.int .i64 4294967296, .int .i64 0, .bool false]] W fun e w' => e = .returned (.tuple #[.int .u64 0, .int .i64 1]) ∧ Below W.heap.size W w' := fun W =>
    (encode_any 4294967296 0 false W).mono fun _ _ ⟨he, hb⟩ => ⟨he.trans rfl, hb⟩
  have d1 : ∀ W : World, Calls Try.prog 10 #[.int .u64 10737418243] W fun e w' => e = .returned (.agg #[.int .i64 2, .int .i64 3, .bool true]) ∧ Below W.heap.size W w' := fun W =>
    (decode_any 10737418243 W (by unfold u64ok; omega)).mono fun _ _ ⟨he, hb⟩ => ⟨he.trans rfl, hb⟩
  have r1 : ∀ W : World, Calls Try.prog 8 #[.agg #[.int .i64 4294967295, .int .i64 2147483647, .bool false]] W fun e w' => e = .returned (.bool true) ∧ Below W.heap.size W w' := fun W =>
    (right_any 4294967295 2147483647 false W).mono fun _ _ ⟨he, hb⟩ => ⟨he.trans rfl, hb⟩
  have r2 : ∀ W : World, Calls Try.prog 8 #[.agg #[.int .i64 0, .int .i64 (-1), .bool false]] W fun e w' => e = .returned (.bool false) ∧ Below W.heap.size W w' := fun W =>
    (right_any 0 (-1) false W).mono fun _ _ ⟨he, hb⟩ => ⟨he.trans rfl, hb⟩
  have hb0 : Below w.heap.size w w := Below.refl _ _
  go_enter Try.func7, Try.ntmps7
  go_wp2_with (first
    | (go_at_call 5; first
        | ((with_reducible refine (e1 _).mono ?_); rintro e w1 ⟨rfl, hb1⟩; replace hb0 := below_more hb0 hb1; clear hb1)
        | ((with_reducible refine (e2 _).mono ?_); rintro e w1 ⟨rfl, hb1⟩; replace hb0 := below_more hb0 hb1; clear hb1))
    | (go_at_call 10; (with_reducible refine (d1 _).mono ?_); rintro e w1 ⟨rfl, hb1⟩; replace hb0 := below_more hb0 hb1; clear hb1)
    | (go_at_call 8; first
        | ((with_reducible refine (r1 _).mono ?_); rintro e w1 ⟨rfl, hb1⟩; replace hb0 := below_more hb0 hb1; clear hb1)
        | ((with_reducible refine (r2 _).mono ?_); rintro e w1 ⟨rfl, hb1⟩; replace hb0 := below_more hb0 hb1; clear hb1)))
  go_ret
  exact ⟨rfl, hb0⟩
end Go.Proofs.Ytedokfkmdeajnaa
