/- conf's Count, Words, find, Class, At. -/
import Derived.Test.YtkboimheeieeeaaDoorConfE
import Derived.Deep.QuietTactic
import Derived.BigQuiet
namespace Go.Proofs.YtkboimheeieeeaaDoor
open Go.RowKit

theorem Lay.drewN {w : World} (h : Lay w) (n : Nat) : Lay (w.drewN n) := h
def countZ (a b c q s : Int) : Int := if mayB a b c q s = true then a + b + c else 0
def wordsZ (a b c q s : Int) : Int := if mayB a b c q s = true then 2 * a + 3 * b + 5 * c else 0
def cumC (a b c : Int) (k : Nat) : Int := match k with | 0 => 0 | 1 => a | 2 => a + b | _ => a + b + c
def cumW (a b c : Int) (k : Nat) : Int := match k with | 0 => 0 | 1 => 2 * a | 2 => 2 * a + 3 * b | _ => 2 * a + 3 * b + 5 * c
def classZ (a b c q s n : Int) : Int := if mayB a b c q s = true ∧ 0 ≤ n then (if n < a then 0 else if n < a + b then 1 else if n < a + b + c then 2 else -1) else -1
def atZ (a b c q s n : Int) : Int := if mayB a b c q s = true ∧ 0 ≤ n then (if n < a then 2 * n else if n < a + b then 2 * a + 3 * (n - a) else if n < a + b + c then 2 * a + 3 * b + 5 * (n - a - b) else -1) else -1
theorem size0 : sizeZ 0 = 2 := rfl
theorem size1 : sizeZ 1 = 3 := rfl
theorem size2 : sizeZ 2 = 5 := rfl
set_option maxRecDepth 100000 in
set_option maxHeartbeats 400000 in
theorem count_any (a b c q s : Int) (w : World) :
    Calls Tryd.prog 23 #[.agg #[.int .i64 a, .int .i64 b, .int .i64 c, .int .i64 q, .int .i64 s]] w fun e w' => e = .returned (.int .i64 (countZ a b c q s)) ∧ Below w.heap.size w w' := by
  cases hm : mayB a b c q s
  · go_enter Tryd.func23, Tryd.ntmps23
    go_wp2_with (go_at_call 33; refine (mayBe_any _ _ _ _ _ _).mono ?_; rintro e w1 ⟨rfl, hb1⟩)
    go_ret
    exact ⟨ret_int (by simp [countZ, hm]), ((Below.refl _ _).alloc (Nat.le_refl _) _).trans (hb1.mono (by simp))⟩
  · obtain ⟨⟨ha, ha'⟩, ⟨hb, hb'⟩, ⟨hc, hc'⟩, _, _⟩ := mayB_iff.1 hm
    go_enter Tryd.func23, Tryd.ntmps23
    go_wp2_with (go_at_call 33; refine (mayBe_any _ _ _ _ _ _).mono ?_; rintro e w1 ⟨rfl, hb1⟩; obtain ⟨hk1, _⟩ := bcell hb1)
    refine wp_loop_rounds 4 ?_
    repeat (rw [rounds_succ]; go_wp2_with fail)
    go_ret
    exact ⟨ret_int (by simp [countZ, hm]), ((Below.refl _ _).alloc (Nat.le_refl _) _).trans (hb1.mono (by simp))⟩

end Go.Proofs.YtkboimheeieeeaaDoor
