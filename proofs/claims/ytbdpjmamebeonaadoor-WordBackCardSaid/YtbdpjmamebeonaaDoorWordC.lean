/- The document's Right and Encode. -/
import Derived.Test.YtbdpjmamebeonaaDoorWordB
namespace Go.Proofs.YtbdpjmamebeonaaDoor
open Go.RowKit

theorem rightB_dat {n : Int} (h : n ≤ 9223372036854775807) : rightB 1 n = true := by simp [rightB, at_dat h]
theorem rightB_ptr {n : Int} (h : n ≤ 9223372036854775806) : rightB 2 n = true := by simp [rightB, at_ptr h]

set_option maxHeartbeats 400000 in
theorem rright_any (k n : Int) (w : World) :
    Calls Tryd.prog 9 #[val k n] w fun e w' => e = .returned (.bool (rightB k n)) ∧ Below w.heap.size w w' := by
  have hb := below_val w k n
  rcases sort4 k n with ⟨rfl, rfl⟩ | ⟨rfl, h⟩ | ⟨rfl, h⟩ | ⟨h0, h1, h2⟩
  ·
    unfold val
    go_enter Tryd.func9, Tryd.ntmps9
    go_wp2
    go_ret
    exact ⟨rfl, hb⟩
  ·
    rw [rightB_dat h]
    unfold val
    go_enter Tryd.func9, Tryd.ntmps9
    go_wp2
    go_ret
    exact ⟨rfl, hb⟩
  ·
    rw [rightB_ptr h]
    unfold val
    go_enter Tryd.func9, Tryd.ntmps9
    go_wp2
    go_ret
    exact ⟨rfl, hb⟩
  ·
    have hr : rightB k n = false := by simp [rightB, h0, h1, h2]
    rw [hr]
    clear hr
    unfold val
    unfold nilB at h0
    unfold datB at h1
    unfold ptrB at h2
    cases k0 : (k == 0)
    · cases k1 : (k == 1)
      · cases k2 : (k == 2)
        · clear h0 h1 h2
          go_enter Tryd.func9, Tryd.ntmps9
          go_wp2
          go_ret
          exact ⟨rfl, hb⟩
        · rw [k2, Bool.true_and] at h2
          clear h0 h1
          go_enter Tryd.func9, Tryd.ntmps9
          go_wp2
          go_ret
          exact ⟨rfl, hb⟩
      · obtain rfl : k = 1 := by simpa using k1
        rw [Bool.and_eq_false_iff] at h1
        have h1 := h1.resolve_left (by simp)
        clear h0 h2 k0 k1
        go_enter Tryd.func9, Tryd.ntmps9
        go_wp2
        go_ret
        exact ⟨rfl, hb⟩
    · obtain rfl : k = 0 := by simpa using k0
      rw [Bool.and_eq_false_iff] at h0
      have h0 := h0.resolve_left (by simp)
      clear h1 h2 k0
      go_enter Tryd.func9, Tryd.ntmps9
      go_wp2
      go_ret
      exact ⟨rfl, hb⟩

set_option maxHeartbeats 400000 in
theorem rencode_any (k n : Int) (w : World) (hn : 0 ≤ n) :
    Calls Tryd.prog 6 #[val k n] w fun e w' => e = .returned (.tuple #[.int .u64 (encV k n), .int .i64 (encE k n)]) ∧ Below w.heap.size w w' := by
  have hb := below_val w k n
  rcases sort4 k n with ⟨rfl, rfl⟩ | ⟨rfl, h⟩ | ⟨rfl, h⟩ | ⟨h0, h1, h2⟩
  ·
    have hr : rightB 0 0 = true := rfl
    unfold val
    go_enter Tryd.func6, Tryd.ntmps6
    go_wp2_with fail
    refine (rright_any _ _ _).mono ?_
    rintro e w1 ⟨rfl, hb1⟩
    have hb2 := below_more hb hb1
    have bl := (Blk.new w _ 25).below hb1 (by simp)
    have c0 := bl.cell (i := 0) rfl
    clear bl hb hb1
    go_wp2_with fail
    go_ret2
    exact ⟨rfl, hb2⟩
  ·
    have hr := rightB_dat h
    have e1 : encV 1 n = 2 * n + 1 := by simp [encV, at_dat h]
    have e2 : encE 1 n = 0 := by simp [encE, hr]
    rw [e1, e2]
    clear e1 e2
    unfold val
    go_enter Tryd.func6, Tryd.ntmps6
    go_wp2_with fail
    refine (rright_any _ _ _).mono ?_
    rintro e w1 ⟨rfl, hb1⟩
    have hb2 := below_more hb hb1
    have bl := (Blk.new w _ 25).below hb1 (by simp)
    have c0 := bl.cell (i := 0) rfl
    have c1 := bl.cell (i := 1) rfl
    clear bl hb hb1
    go_wp2_with fail
    go_ret2
    exact ⟨rfl, hb2⟩
  ·
    have hr := rightB_ptr h
    have e1 : encV 2 n = 2 * n + 2 := by simp [encV, at_ptr h]
    have e2 : encE 2 n = 0 := by simp [encE, hr]
    rw [e1, e2]
    clear e1 e2
    unfold val
    go_enter Tryd.func6, Tryd.ntmps6
    go_wp2_with fail
    refine (rright_any _ _ _).mono ?_
    rintro e w1 ⟨rfl, hb1⟩
    have hb2 := below_more hb hb1
    have bl := (Blk.new w _ 25).below hb1 (by simp)
    have c0 := bl.cell (i := 0) rfl
    have c1 := bl.cell (i := 1) rfl
    clear bl hb hb1
    go_wp2_with fail
    go_ret2
    exact ⟨rfl, hb2⟩
  ·
    have hr : rightB k n = false := by simp [rightB, h0, h1, h2]
    have e1 : encV k n = 0 := by simp [encV, h0, h1, h2]
    have e2 : encE k n = 1 := by simp [encE, hr]
    rw [e1, e2]
    clear e1 e2 h0 h1 h2
    unfold val
    go_enter Tryd.func6, Tryd.ntmps6
    go_wp2_with (go_at_call 9; refine (rright_any _ _ _).mono ?_; rintro e w1 ⟨rfl, hb1⟩)
    go_ret2
    exact ⟨rfl, below_more hb hb1⟩
end Go.Proofs.YtbdpjmamebeonaaDoor
