/- Contracts of package word: told. -/
import Derived.Test.YtbdpjmamebeonaaDoorMem
namespace Go.Proofs.YtbdpjmamebeonaaDoor
open Go.RowKit

def val (k n : Int) : Value := .agg #[.int .i64 k, .int .u64 n]
def u64ok (n : Int) : Prop := 0 ≤ n ∧ n ≤ 18446744073709551615
/-- Nil, data, a pointer, or what may not be. -/
def nilB (k n : Int) : Bool := (k == 0) && (n == 0)
def datB (k n : Int) : Bool := (k == 1) && decide (n ≤ 9223372036854775807)
def ptrB (k n : Int) : Bool := (k == 2) && decide (n ≤ 9223372036854775806)

theorem below_val (w : World) (k n : Int) : Below w.heap.size w (w.alloc (.cells #[.int .i64 k, .int .u64 n] 25)) := (Below.refl _ _).alloc (Nat.le_refl _) _

set_option maxHeartbeats 400000 in
theorem told_nil (w : World) :
    Calls Tryd.prog 14 #[val 0 0] w fun e w' => e = .returned (.iface 37 (.agg #[])) ∧ Below w.heap.size w w' := by
  unfold val
  go_enter Tryd.func14, Tryd.ntmps14
  go_wp2
  go_ret
  exact ⟨rfl, below_val _ _ _⟩
set_option maxHeartbeats 400000 in
theorem told_dat (n : Int) (w : World) (h : n ≤ 9223372036854775807) :
    Calls Tryd.prog 14 #[val 1 n] w fun e w' => e = .returned (.iface 39 (.int .u64 n)) ∧ Below w.heap.size w w' := by
  unfold val
  go_enter Tryd.func14, Tryd.ntmps14
  go_wp2
  go_ret
  exact ⟨rfl, below_val _ _ _⟩
set_option maxHeartbeats 400000 in
theorem told_ptr (n : Int) (w : World) (h : n ≤ 9223372036854775806) :
    Calls Tryd.prog 14 #[val 2 n] w fun e w' => e = .returned (.iface 41 (.int .u64 n)) ∧ Below w.heap.size w w' := by
  unfold val
  go_enter Tryd.func14, Tryd.ntmps14
  go_wp2
  go_ret
  exact ⟨rfl, below_val _ _ _⟩
set_option maxHeartbeats 400000 in
theorem told_no (k n : Int) (w : World) (h0 : nilB k n = false) (h1 : datB k n = false) (h2 : ptrB k n = false) :
    Calls Tryd.prog 14 #[val k n] w fun e w' => e = .returned .nilIface ∧ Below w.heap.size w w' := by
  unfold val
  unfold nilB at h0
  unfold datB at h1
  unfold ptrB at h2
  cases k0 : (k == 0)
  · cases k1 : (k == 1)
    · cases k2 : (k == 2)
      · clear h0 h1 h2
        go_enter Tryd.func14, Tryd.ntmps14
        go_wp2
        go_ret
        exact ⟨rfl, below_val _ _ _⟩
      · rw [k2, Bool.true_and] at h2
        clear h0 h1
        go_enter Tryd.func14, Tryd.ntmps14
        go_wp2
        go_ret
        exact ⟨rfl, below_val _ _ _⟩
    · obtain rfl : k = 1 := by simpa using k1
      rw [Bool.and_eq_false_iff] at h1
      have h1 := h1.resolve_left (by simp)
      clear h0 h2 k0 k1
      go_enter Tryd.func14, Tryd.ntmps14
      go_wp2
      go_ret
      exact ⟨rfl, below_val _ _ _⟩
  · obtain rfl : k = 0 := by simpa using k0
    rw [Bool.and_eq_false_iff] at h0
    have h0 := h0.resolve_left (by simp)
    clear h1 h2 k0
    go_enter Tryd.func14, Tryd.ntmps14
    go_wp2
    go_ret
    exact ⟨rfl, below_val _ _ _⟩
end Go.Proofs.YtbdpjmamebeonaaDoor
