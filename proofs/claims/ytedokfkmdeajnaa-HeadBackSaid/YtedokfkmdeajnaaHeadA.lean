/- Contracts of package head's small functions: within, bit, Right, and the document's Right. -/
import Derived.Test.YtedokfkmdeajnaaMem
namespace Go.Proofs.Ytedokfkmdeajnaa
open Go.RowKit

def withinB (n b : Int) : Bool := decide (0 ≤ n ∧ n ≤ b)
def bitZ (b : Bool) : Int := if b then 1 else 0
def rightB (g c : Int) : Bool := withinB g 4294967295 && withinB c 2147483647
def hdr (g c : Int) (u : Bool) : Value := .agg #[.int .i64 g, .int .i64 c, .bool u]

set_option maxHeartbeats 400000 in
theorem within_any (n b : Int) (w : World) :
    Calls Try.prog 14 #[.int .i64 n, .int .i64 b] w fun e w' => e = .returned (.bool (withinB n b)) ∧ w = w' := by
  by_cases h : 0 ≤ n
  · go_enter Try.func14, Try.ntmps14
    go_wp2
    go_ret
    exact ⟨ret_bool (by simp [withinB, h]), rfl⟩
  · go_enter Try.func14, Try.ntmps14
    go_wp2
    go_ret
    exact ⟨ret_bool (by simp [withinB]; omega), rfl⟩

set_option maxHeartbeats 400000 in
theorem bit_any (b : Bool) (w : World) :
    Calls Try.prog 13 #[.bool b] w fun e w' => e = .returned (.int .i64 (bitZ b)) ∧ w = w' := by
  cases b
  all_goals
    go_enter Try.func13, Try.ntmps13
    go_wp2
    go_ret
    exact ⟨rfl, rfl⟩

set_option maxHeartbeats 400000 in
theorem right_any (g c : Int) (u : Bool) (w : World) :
    Calls Try.prog 8 #[hdr g c u] w fun e w' => e = .returned (.bool (rightB g c)) ∧ Below w.heap.size w w' := by
  have hb : Below w.heap.size w (w.alloc (.cells #[.int .i64 g, .int .i64 c, .bool u] 23)) := (Below.refl _ _).alloc (Nat.le_refl _) _
  unfold hdr
  cases h : withinB g 4294967295
  · go_enter Try.func8, Try.ntmps8
    go_wp2_with (go_at_call 14; refine (within_any _ _ _).mono ?_; rintro e w' ⟨rfl, rfl⟩)
    go_ret
    exact ⟨ret_bool (by simp [rightB, h]), hb⟩
  · go_enter Try.func8, Try.ntmps8
    go_wp2_with (go_at_call 14; refine (within_any _ _ _).mono ?_; rintro e w' ⟨rfl, rfl⟩)
    go_ret
    exact ⟨ret_bool (by simp [rightB, h]), hb⟩

set_option maxHeartbeats 400000 in
theorem rright_any (g c : Int) (u : Bool) (w : World) :
    Calls Try.prog 9 #[hdr g c u] w fun e w' => e = .returned (.bool (rightB g c)) ∧ Below w.heap.size w w' := by
  have hb : Below w.heap.size w (w.alloc (.cells #[.int .i64 g, .int .i64 c, .bool u] 23)) := (Below.refl _ _).alloc (Nat.le_refl _) _
  unfold hdr
  by_cases h0 : 0 ≤ g
  · by_cases h1 : g ≤ 4294967295
    · by_cases h2 : 0 ≤ c
      · go_enter Try.func9, Try.ntmps9
        go_wp2
        go_ret
        exact ⟨ret_bool (by simp [rightB, withinB, h0, h1, h2]), hb⟩
      · go_enter Try.func9, Try.ntmps9
        go_wp2
        go_ret
        exact ⟨ret_bool (by simp [rightB, withinB]; omega), hb⟩
    · go_enter Try.func9, Try.ntmps9
      go_wp2
      go_ret
      exact ⟨ret_bool (by simp [rightB, withinB]; omega), hb⟩
  · go_enter Try.func9, Try.ntmps9
    go_wp2
    go_ret
    exact ⟨ret_bool (by simp [rightB, withinB]; omega), hb⟩
end Go.Proofs.Ytedokfkmdeajnaa
