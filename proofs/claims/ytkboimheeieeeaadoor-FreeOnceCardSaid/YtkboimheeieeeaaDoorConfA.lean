/- Contracts of package conf's small functions: within, Slots, Size, and the document's Slots, Size. -/
import Derived.Test.YtkboimheeieeeaaDoorMem
namespace Go.Proofs.YtkboimheeieeeaaDoor
open Go.RowKit

def Lay (w : World) : Prop := w.cell? ⟨0, 0, none⟩ = some (.int .i64 1) ∧ w.cell? ⟨0, 1, none⟩ = some (.int .i64 2) ∧ w.cell? ⟨0, 2, none⟩ = some (.int .i64 4)
theorem Lay.below {w w' : World} (h : Lay w) (hb : Below w.heap.size w w') : Lay w' := by
  have h0 := World.block_lt_of_cell? w _ h.1
  exact ⟨(hb.cell (p := ⟨0, 0, none⟩) h0).trans h.1, (hb.cell (p := ⟨0, 1, none⟩) h0).trans h.2.1, (hb.cell (p := ⟨0, 2, none⟩) h0).trans h.2.2⟩
def slotsZ (n : Int) : Int := if n = 0 then 1 else if n = 1 then 2 else if n = 2 then 4 else 0
def sizeZ (n : Int) : Int := if n = 0 then 2 else if n = 1 then 3 else if n = 2 then 5 else 0
def inB (n a b : Int) : Bool := decide (a ≤ n ∧ n ≤ b)
theorem slotsZ_out {n : Int} (h : ¬(0 ≤ n ∧ n ≤ 2)) : 0 = slotsZ n ∧ 0 = sizeZ n := by
  unfold slotsZ sizeZ
  rw [if_neg (by omega), if_neg (by omega), if_neg (by omega), if_neg (by omega), if_neg (by omega), if_neg (by omega)]; exact ⟨rfl, rfl⟩
set_option maxHeartbeats 400000 in
theorem within_any (n a b : Int) (w : World) :
    Calls Tryd.prog 32 #[.int .i64 n, .int .i64 a, .int .i64 b] w fun e w' => e = .returned (.bool (inB n a b)) ∧ w = w' := by
  by_cases h : a ≤ n
  · go_enter Tryd.func32, Tryd.ntmps32
    go_wp2
    go_ret
    exact ⟨ret_bool (by simp [inB, h]), rfl⟩
  · have h' : n < a := by omega
    go_enter Tryd.func32, Tryd.ntmps32
    go_wp2
    go_ret
    exact ⟨ret_bool (by simp [inB]; omega), rfl⟩

set_option maxHeartbeats 400000 in
theorem size_any (n : Int) (w : World) (hl : Lay w) :
    Calls Tryd.prog 35 #[.int .i64 n] w fun e w' => e = .returned (.int .i64 (sizeZ n)) ∧ w = w' := by
  obtain ⟨l0, l1, l2⟩ := hl
  by_cases h : 0 ≤ n ∧ n ≤ 2
  · have hb : inB n 0 2 = true := by simp [inB, h]
    have : n = 0 ∨ n = 1 ∨ n = 2 := by omega
    rcases this with rfl | rfl | rfl
    all_goals
      go_enter Tryd.func35, Tryd.ntmps35
      go_wp2_with (go_at_call 32; refine (within_any _ _ _ _).mono ?_; rintro e w' ⟨rfl, rfl⟩)
      go_ret
      exact ⟨rfl, rfl⟩
  · have hb : inB n 0 2 = false := by simp [inB]; omega
    go_enter Tryd.func35, Tryd.ntmps35
    go_wp2_with (go_at_call 32; refine (within_any _ _ _ _).mono ?_; rintro e w' ⟨rfl, rfl⟩)
    go_ret
    exact ⟨ret_int (slotsZ_out h).2, rfl⟩

theorem slotsZ_cases (n : Int) : slotsZ n = 0 ∧ sizeZ n = 0 ∨ ((slotsZ n == 0) = false ∧ sizeZ n = slotsZ n + 1 ∧ 0 < slotsZ n ∧ slotsZ n ≤ 4) := by
  unfold slotsZ sizeZ
  split
  · simp
  split
  · simp
  split
  · simp
  · simp

end Go.Proofs.YtkboimheeieeeaaDoor
