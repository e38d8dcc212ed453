/- mayBe. -/
import Derived.Test.YtkboimheeieeeaaDoorConfA
namespace Go.Proofs.YtkboimheeieeeaaDoor
open Go.RowKit

def mayB (a b c q s : Int) : Bool := inB a 0 64 && inB b 0 64 && inB c 0 64 && inB q 0 65536 && inB s 1 4294967294

set_option maxRecDepth 100000 in
set_option maxHeartbeats 400000 in
theorem mayBe_any (a b c q s : Int) (w : World) :
    Calls Tryd.prog 33 #[.agg #[.int .i64 a, .int .i64 b, .int .i64 c, .int .i64 q, .int .i64 s]] w fun e w' => e = .returned (.bool (mayB a b c q s)) ∧ Below w.heap.size w w' := by
  cases ha : inB a 0 64
  · go_enter Tryd.func33, Tryd.ntmps33
    go_wp2_with fail
    refine wp_loop_rounds 4 ?_
    repeat (rw [rounds_succ]; go_wp2_with (go_at_call 32; refine (within_any _ _ _ _).mono ?_; rintro e w' ⟨rfl, rfl⟩))
    go_ret
    exact ⟨ret_bool (by simp [mayB, *]), by go_grown⟩
  cases hb : inB b 0 64
  · go_enter Tryd.func33, Tryd.ntmps33
    go_wp2_with fail
    refine wp_loop_rounds 4 ?_
    repeat (rw [rounds_succ]; go_wp2_with (go_at_call 32; refine (within_any _ _ _ _).mono ?_; rintro e w' ⟨rfl, rfl⟩))
    go_ret
    exact ⟨ret_bool (by simp [mayB, *]), by go_grown⟩
  cases hc : inB c 0 64
  · go_enter Tryd.func33, Tryd.ntmps33
    go_wp2_with fail
    refine wp_loop_rounds 4 ?_
    repeat (rw [rounds_succ]; go_wp2_with (go_at_call 32; refine (within_any _ _ _ _).mono ?_; rintro e w' ⟨rfl, rfl⟩))
    go_ret
    exact ⟨ret_bool (by simp [mayB, *]), by go_grown⟩
  cases hq : inB q 0 65536
  · go_enter Tryd.func33, Tryd.ntmps33
    go_wp2_with fail
    refine wp_loop_rounds 4 ?_
    repeat (rw [rounds_succ]; go_wp2_with (go_at_call 32; refine (within_any _ _ _ _).mono ?_; rintro e w' ⟨rfl, rfl⟩))
    go_ret
    exact ⟨ret_bool (by simp [mayB, *]), by go_grown⟩
  cases hs : inB s 1 4294967294
  all_goals
    go_enter Tryd.func33, Tryd.ntmps33
    go_wp2_with fail
    refine wp_loop_rounds 4 ?_
    repeat (rw [rounds_succ]; go_wp2_with (go_at_call 32; refine (within_any _ _ _ _).mono ?_; rintro e w' ⟨rfl, rfl⟩))
    go_ret
    exact ⟨ret_bool (by simp [mayB, *]), by go_grown⟩
end Go.Proofs.YtkboimheeieeeaaDoor
