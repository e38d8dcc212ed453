/- The document's Share. -/
import Derived.Test.YtkboimheeieeeaaDoorConfB
namespace Go.Proofs.YtkboimheeieeeaaDoor
open Go.RowKit
theorem inB_t {n a b : Int} (h : a ≤ n ∧ n ≤ b) : inB n a b = true := by simp [inB, h]
theorem inB_f {n a b : Int} (h : n < a ∨ b < n) : inB n a b = false := by simp [inB]; omega
theorem mayB_a {a b c q s : Int} (h : a < 0 ∨ 64 < a) : false = mayB a b c q s := by simp [mayB, inB_f h]
theorem mayB_b {a b c q s : Int} (h : b < 0 ∨ 64 < b) : false = mayB a b c q s := by simp [mayB, inB_f h]
theorem mayB_c {a b c q s : Int} (h : c < 0 ∨ 64 < c) : false = mayB a b c q s := by simp [mayB, inB_f h]
theorem mayB_q {a b c q s : Int} (h : q < 0 ∨ 65536 < q) : false = mayB a b c q s := by simp [mayB, inB_f h]
theorem mayB_s {a b c q s : Int} (h : s < 1 ∨ 4294967294 < s) : false = mayB a b c q s := by simp [mayB, inB_f h]
theorem mayB_t {a b c q s : Int} (ha : 0 ≤ a ∧ a ≤ 64) (hb : 0 ≤ b ∧ b ≤ 64) (hc : 0 ≤ c ∧ c ≤ 64) (hq : 0 ≤ q ∧ q ≤ 65536) (hs : 1 ≤ s ∧ s ≤ 4294967294) : true = mayB a b c q s := by
  simp [mayB, inB_t ha, inB_t hb, inB_t hc, inB_t hq, inB_t hs]
theorem mayB_iff {a b c q s : Int} : mayB a b c q s = true ↔ (0 ≤ a ∧ a ≤ 64) ∧ (0 ≤ b ∧ b ≤ 64) ∧ (0 ≤ c ∧ c ≤ 64) ∧ (0 ≤ q ∧ q ≤ 65536) ∧ (1 ≤ s ∧ s ≤ 4294967294) := by
  simp [mayB, inB, and_assoc]

set_option maxRecDepth 100000 in
set_option maxHeartbeats 400000 in
theorem share_any (a b c q s : Int) (w : World) :
    Calls Tryd.prog 7 #[.agg #[.int .i64 a, .int .i64 b, .int .i64 c, .int .i64 q, .int .i64 s]] w fun e w' => e = .returned (.bool (mayB a b c q s)) ∧ Below w.heap.size w w' := by
  by_cases a0 : a < 0
  · go_enter Tryd.func7, Tryd.ntmps7
    go_wp2_with fail
    refine wp_loop_rounds 4 ?_
    repeat (rw [rounds_succ]; go_wp2_with fail)
    go_ret
    exact ⟨ret_bool (mayB_a (by omega)), by go_grown⟩
  have a2 : 0 ≤ a := by omega
  by_cases a1 : 64 < a
  · go_enter Tryd.func7, Tryd.ntmps7
    go_wp2_with fail
    refine wp_loop_rounds 4 ?_
    repeat (rw [rounds_succ]; go_wp2_with fail)
    go_ret
    exact ⟨ret_bool (mayB_a (by omega)), by go_grown⟩
  have a3 : a ≤ 64 := by omega
  clear a0 a1
  by_cases b0 : b < 0
  · go_enter Tryd.func7, Tryd.ntmps7
    go_wp2_with fail
    refine wp_loop_rounds 4 ?_
    repeat (rw [rounds_succ]; go_wp2_with fail)
    go_ret
    exact ⟨ret_bool (mayB_b (by omega)), by go_grown⟩
  have b2 : 0 ≤ b := by omega
  by_cases b1 : 64 < b
  · go_enter Tryd.func7, Tryd.ntmps7
    go_wp2_with fail
    refine wp_loop_rounds 4 ?_
    repeat (rw [rounds_succ]; go_wp2_with fail)
    go_ret
    exact ⟨ret_bool (mayB_b (by omega)), by go_grown⟩
  have b3 : b ≤ 64 := by omega
  clear b0 b1
  by_cases c0 : c < 0
  · go_enter Tryd.func7, Tryd.ntmps7
    go_wp2_with fail
    refine wp_loop_rounds 4 ?_
    repeat (rw [rounds_succ]; go_wp2_with fail)
    go_ret
    exact ⟨ret_bool (mayB_c (by omega)), by go_grown⟩
  have c2 : 0 ≤ c := by omega
  by_cases c1 : 64 < c
  · go_enter Tryd.func7, Tryd.ntmps7
    go_wp2_with fail
    refine wp_loop_rounds 4 ?_
    repeat (rw [rounds_succ]; go_wp2_with fail)
    go_ret
    exact ⟨ret_bool (mayB_c (by omega)), by go_grown⟩
  have c3 : c ≤ 64 := by omega
  clear c0 c1
  by_cases q0 : q < 0
  · go_enter Tryd.func7, Tryd.ntmps7
    go_wp2_with fail
    refine wp_loop_rounds 4 ?_
    repeat (rw [rounds_succ]; go_wp2_with fail)
    go_ret
    exact ⟨ret_bool (mayB_q (by omega)), by go_grown⟩
  have q2 : 0 ≤ q := by omega
  by_cases q1 : 65536 < q
  · go_enter Tryd.func7, Tryd.ntmps7
    go_wp2_with fail
    refine wp_loop_rounds 4 ?_
    repeat (rw [rounds_succ]; go_wp2_with fail)
    go_ret
    exact ⟨ret_bool (mayB_q (by omega)), by go_grown⟩
  have q3 : q ≤ 65536 := by omega
  clear q0 q1
  by_cases s0 : s < 1
  · go_enter Tryd.func7, Tryd.ntmps7
    go_wp2_with fail
    refine wp_loop_rounds 4 ?_
    repeat (rw [rounds_succ]; go_wp2_with fail)
    go_ret
    exact ⟨ret_bool (mayB_s (by omega)), by go_grown⟩
  have s2 : 1 ≤ s := by omega
  by_cases s1 : 4294967294 < s
  · go_enter Tryd.func7, Tryd.ntmps7
    go_wp2_with fail
    refine wp_loop_rounds 4 ?_
    repeat (rw [rounds_succ]; go_wp2_with fail)
    go_ret
    exact ⟨ret_bool ((decide_eq_false (by omega)).trans (mayB_s (by omega))), by go_grown⟩
  have s3 : s ≤ 4294967294 := by omega
  clear s0 s1
  · go_enter Tryd.func7, Tryd.ntmps7
    go_wp2_with fail
    refine wp_loop_rounds 4 ?_
    repeat (rw [rounds_succ]; go_wp2_with fail)
    go_ret
    exact ⟨ret_bool (mayB_t (by omega) (by omega) (by omega) (by omega) (by omega)), by go_grown⟩
end Go.Proofs.YtkboimheeieeeaaDoor
