/- Contracts of package handle's small functions: within, Right, worth; the document's Right, figure. -/
import Derived.Test.YtgopblhaapbimaaDoorMem
namespace Go.Proofs.YtgopblhaapbimaaDoor
open Go.RowKit

def withinB (n a b : Int) : Bool := decide (a ≤ n ∧ n ≤ b)
def rightB (k t i g : Int) : Bool := withinB k 1 2 && withinB t 1 16 && withinB i 0 67108863 && withinB g 0 4294967295
def hnd (k t i g : Int) : Value := .agg #[.int .i64 k, .int .i64 t, .int .i64 i, .int .i64 g]
def u64ok (x : Int) : Prop := 0 ≤ x ∧ x < 18446744073709551616
theorem below_hnd (w : World) (k t i g : Int) : Below w.heap.size w (w.alloc (.cells #[.int .i64 k, .int .i64 t, .int .i64 i, .int .i64 g] 23)) := (Below.refl _ _).alloc (Nat.le_refl _) _

set_option maxHeartbeats 400000 in
theorem within_any (n a b : Int) (w : World) :
    Calls Tryd.prog 18 #[.int .i64 n, .int .i64 a, .int .i64 b] w fun e w' => e = .returned (.bool (withinB n a b)) ∧ w = w' := by
  by_cases h : a ≤ n
  · go_enter Tryd.func18, Tryd.ntmps18
    go_wp2
    go_ret
    exact ⟨ret_bool (by simp [withinB, h]), rfl⟩
  · go_enter Tryd.func18, Tryd.ntmps18
    go_wp2
    go_ret
    exact ⟨ret_bool (by simp [withinB]; omega), rfl⟩

set_option maxHeartbeats 400000 in
theorem right_any (k t i g : Int) (w : World) :
    Calls Tryd.prog 12 #[hnd k t i g] w fun e w' => e = .returned (.bool (rightB k t i g)) ∧ Below w.heap.size w w' := by
  have hb := below_hnd w k t i g
  unfold hnd
  cases h1 : withinB k 1 2
  · go_enter Tryd.func12, Tryd.ntmps12
    go_wp2_with (go_at_call 18; refine (within_any _ _ _ _).mono ?_; rintro e w' ⟨rfl, rfl⟩)
    go_ret
    exact ⟨ret_bool (by simp [rightB, h1]), hb⟩
  · cases h2 : withinB t 1 16
    · go_enter Tryd.func12, Tryd.ntmps12
      go_wp2_with (go_at_call 18; refine (within_any _ _ _ _).mono ?_; rintro e w' ⟨rfl, rfl⟩)
      go_ret
      exact ⟨ret_bool (by simp [rightB, h1, h2]), hb⟩
    · cases h3 : withinB i 0 67108863
      · go_enter Tryd.func12, Tryd.ntmps12
        go_wp2_with (go_at_call 18; refine (within_any _ _ _ _).mono ?_; rintro e w' ⟨rfl, rfl⟩)
        go_ret
        exact ⟨ret_bool (by simp [rightB, h1, h2, h3]), hb⟩
      · go_enter Tryd.func12, Tryd.ntmps12
        go_wp2_with (go_at_call 18; refine (within_any _ _ _ _).mono ?_; rintro e w' ⟨rfl, rfl⟩)
        go_ret
        exact ⟨ret_bool (by simp [rightB, h1, h2, h3]), hb⟩

set_option maxHeartbeats 800000 in
theorem rright_any (k t i g : Int) (w : World) :
    Calls Tryd.prog 13 #[hnd k t i g] w fun e w' => e = .returned (.bool (rightB k t i g)) ∧ Below w.heap.size w w' := by
  have hb := below_hnd w k t i g
  unfold hnd
  go_enter Tryd.func13, Tryd.ntmps13
  go_wp2
  all_goals
    go_ret
    refine ⟨ret_bool ?_, below_hnd _ _ _ _ _⟩
    try simp only [beq_iff_eq, beq_eq_false_iff_ne, ne_eq] at *
    rw [Bool.eq_iff_iff]
    simp only [rightB, withinB, Bool.and_eq_true, decide_eq_true_eq, Bool.false_eq_true, false_iff]
    omega

/-- A figure's number, of a byte or a rune. -/
def worV (r : Int) : Int := if 48 ≤ r ∧ r ≤ 57 then r - 48 else if 97 ≤ r ∧ r ≤ 102 then r - 87 else 0
def worB (r : Int) : Bool := decide (48 ≤ r ∧ r ≤ 57) || decide (97 ≤ r ∧ r ≤ 102)
theorem ret_wor {a a' : Int} {b b' : Bool} (h : a = a') (h' : b = b') : Ending.returned (.tuple #[.int .u64 a, .bool b]) = .returned (.tuple #[.int .u64 a', .bool b']) := by rw [h, h']
set_option maxHeartbeats 400000 in
theorem worth_any (r : Int) (w : World) (h0 : 0 ≤ r) (h1 : r ≤ 2147483647) :
    Calls Tryd.prog 16 #[.int .i32 r] w fun e w' => e = .returned (.tuple #[.int .u64 (worV r), .bool (worB r)]) ∧ w = w' := by
  by_cases a1 : 48 ≤ r
  · by_cases a2 : r ≤ 57
    · go_enter Tryd.func16, Tryd.ntmps16
      go_wp2
      go_ret2
      exact ⟨ret_wor (by simp [worV, a1, a2]) (by simp [worB, a1, a2]), rfl⟩
    · by_cases a3 : 97 ≤ r
      · by_cases a4 : r ≤ 102
        · go_enter Tryd.func16, Tryd.ntmps16
          go_wp2
          go_ret2
          exact ⟨ret_wor (by unfold worV; rw [if_neg (by omega), if_pos ⟨a3, a4⟩]; omega) (by simp [worB, a3, a4]), rfl⟩
        · go_enter Tryd.func16, Tryd.ntmps16
          go_wp2
          go_ret2
          exact ⟨ret_wor (by simp [worV]; omega) (by simp [worB]; omega), rfl⟩
      · go_enter Tryd.func16, Tryd.ntmps16
        go_wp2
        go_ret2
        exact ⟨ret_wor (by simp [worV]; omega) (by simp [worB]; omega), rfl⟩
  · have a3 : ¬ 97 ≤ r := by omega
    go_enter Tryd.func16, Tryd.ntmps16
    go_wp2
    go_ret2
    exact ⟨ret_wor (by simp [worV]; omega) (by simp [worB]; omega), rfl⟩

def figZ (d : Int) : Int := if d < 10 then 48 + d else 87 + d
set_option maxHeartbeats 400000 in
theorem figure_any (d : Int) (w : World) (h0 : 0 ≤ d) (h1 : d < 16) :
    Calls Tryd.prog 17 #[.int .u64 d] w fun e w' => e = .returned (.int .u8 (figZ d)) ∧ w = w' := by
  by_cases h : d < 10
  · go_enter Tryd.func17, Tryd.ntmps17
    go_wp2
    go_ret
    exact ⟨ret_int (by simp only [figZ, if_pos h]), rfl⟩
  · go_enter Tryd.func17, Tryd.ntmps17
    go_wp2
    go_ret
    exact ⟨ret_int (by unfold figZ; rw [if_neg (by omega)]; omega), rfl⟩
end Go.Proofs.YtgopblhaapbimaaDoor
