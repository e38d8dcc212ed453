/- Contracts of package conf's small functions: within, Slots, Size, and the document's Slots, Size. -/
import Derived.Test.YtalfkhnadflhnaaDoorRows
import Derived.WalkKit
import Derived.WalkSpells
import Derived.WalkLawsBesides
import Derived.Handy
import Derived.Lib.Hide
namespace Go.Proofs.YtalfkhnadflhnaaDoor
open Go.RowKit

def Lay (w : World) : Prop := w.cell? ⟨0, 0, none⟩ = some (.int .i64 1) ∧ w.cell? ⟨0, 1, none⟩ = some (.int .i64 2) ∧ w.cell? ⟨0, 2, none⟩ = some (.int .i64 4)
theorem Lay.below {w w' : World} (h : Lay w) (hb : Below w.heap.size w w') : Lay w' := by
  have h0 := World.block_lt_of_cell? w _ h.1
  exact ⟨(hb.cell (p := ⟨0, 0, none⟩) h0).trans h.1, (hb.cell (p := ⟨0, 1, none⟩) h0).trans h.2.1, (hb.cell (p := ⟨0, 2, none⟩) h0).trans h.2.2⟩
theorem bcell {W w1 : World} (hb : Below W.heap.size W w1) : (∀ b o, b < W.heap.size → w1.cell? ⟨b, o, none⟩ = W.cell? ⟨b, o, none⟩) ∧ (∀ b o, b < W.heap.size → w1.frozen? ⟨b, o, none⟩ = W.frozen? ⟨b, o, none⟩) :=
  ⟨fun b o h => hb.cell (p := ⟨b, o, none⟩) h, fun b o h => hb.frozen (p := ⟨b, o, none⟩) h⟩
def slotsZ (n : Int) : Int := if n = 0 then 1 else if n = 1 then 2 else if n = 2 then 4 else 0
def sizeZ (n : Int) : Int := if n = 0 then 2 else if n = 1 then 3 else if n = 2 then 5 else 0
def inB (n a b : Int) : Bool := decide (a ≤ n ∧ n ≤ b)
theorem slotsZ_out {n : Int} (h : ¬(0 ≤ n ∧ n ≤ 2)) : 0 = slotsZ n ∧ 0 = sizeZ n := by
  unfold slotsZ sizeZ
  rw [if_neg (by omega), if_neg (by omega), if_neg (by omega), if_neg (by omega), if_neg (by omega), if_neg (by omega)]; exact ⟨rfl, rfl⟩
theorem ret_int {k : IntKind} {a b : Int} (h : a = b) : Ending.returned (.int k a) = .returned (.int k b) := by rw [h]
theorem ret_bool {a b : Bool} (h : a = b) : Ending.returned (.bool a) = .returned (.bool b) := by rw [h]

set_option maxHeartbeats 400000 in
theorem within_any (n a b : Int) (w : World) :
    Calls Tryd.prog 22 #[.int .i64 n, .int .i64 a, .int .i64 b] w fun e w' => e = .returned (.bool (inB n a b)) ∧ w = w' := by
  by_cases h : a ≤ n
  · go_enter Tryd.func22, Tryd.ntmps22
    go_wp2
    go_ret
    exact ⟨ret_bool (by simp [inB, h]), rfl⟩
  · have h' : n < a := by omega
    go_enter Tryd.func22, Tryd.ntmps22
    go_wp2
    go_ret
    exact ⟨ret_bool (by simp [inB]; omega), rfl⟩

set_option maxHeartbeats 400000 in
theorem slots_any (n : Int) (w : World) (hl : Lay w) :
    Calls Tryd.prog 6 #[.int .i64 n] w fun e w' => e = .returned (.int .i64 (slotsZ n)) ∧ w = w' := by
  obtain ⟨l0, l1, l2⟩ := hl
  by_cases h : 0 ≤ n ∧ n ≤ 2
  · have hb : inB n 0 2 = true := by simp [inB, h]
    have : n = 0 ∨ n = 1 ∨ n = 2 := by omega
    rcases this with rfl | rfl | rfl
    all_goals
      go_enter Tryd.func6, Tryd.ntmps6
      go_wp2_with (go_at_call 22; refine (within_any _ _ _ _).mono ?_; rintro e w' ⟨rfl, rfl⟩)
      go_ret
      exact ⟨rfl, rfl⟩
  · have hb : inB n 0 2 = false := by simp [inB]; omega
    go_enter Tryd.func6, Tryd.ntmps6
    go_wp2_with (go_at_call 22; refine (within_any _ _ _ _).mono ?_; rintro e w' ⟨rfl, rfl⟩)
    go_ret
    exact ⟨ret_int (slotsZ_out h).1, rfl⟩

set_option maxHeartbeats 400000 in
theorem size_any (n : Int) (w : World) (hl : Lay w) :
    Calls Tryd.prog 8 #[.int .i64 n] w fun e w' => e = .returned (.int .i64 (sizeZ n)) ∧ w = w' := by
  obtain ⟨l0, l1, l2⟩ := hl
  by_cases h : 0 ≤ n ∧ n ≤ 2
  · have hb : inB n 0 2 = true := by simp [inB, h]
    have : n = 0 ∨ n = 1 ∨ n = 2 := by omega
    rcases this with rfl | rfl | rfl
    all_goals
      go_enter Tryd.func8, Tryd.ntmps8
      go_wp2_with (go_at_call 22; refine (within_any _ _ _ _).mono ?_; rintro e w' ⟨rfl, rfl⟩)
      go_ret
      exact ⟨rfl, rfl⟩
  · have hb : inB n 0 2 = false := by simp [inB]; omega
    go_enter Tryd.func8, Tryd.ntmps8
    go_wp2_with (go_at_call 22; refine (within_any _ _ _ _).mono ?_; rintro e w' ⟨rfl, rfl⟩)
    go_ret
    exact ⟨ret_int (slotsZ_out h).2, rfl⟩

set_option maxHeartbeats 400000 in
theorem rslots_any (n : Int) (w : World) :
    Calls Tryd.prog 7 #[.int .i64 n] w fun e w' => e = .returned (.int .i64 (slotsZ n)) ∧ w = w' := by
  by_cases h0 : n = 0
  · subst h0
    go_enter Tryd.func7, Tryd.ntmps7
    go_wp2
    go_ret
    exact ⟨rfl, rfl⟩
  by_cases h1 : n = 1
  · subst h1
    go_enter Tryd.func7, Tryd.ntmps7
    go_wp2
    go_ret
    exact ⟨rfl, rfl⟩
  by_cases h2 : n = 2
  · subst h2
    go_enter Tryd.func7, Tryd.ntmps7
    go_wp2
    go_ret
    exact ⟨rfl, rfl⟩
  have g0 : (n == 0) = false := by simp [h0]
  have g1 : (n == 1) = false := by simp [h1]
  have g2 : (n == 2) = false := by simp [h2]
  go_enter Tryd.func7, Tryd.ntmps7
  go_wp2
  go_ret
  exact ⟨ret_int (by simp [slotsZ, h0, h1, h2]), rfl⟩

theorem slotsZ_cases (n : Int) : slotsZ n = 0 ∧ sizeZ n = 0 ∨ ((slotsZ n == 0) = false ∧ sizeZ n = slotsZ n + 1 ∧ 0 < slotsZ n ∧ slotsZ n ≤ 4) := by
  unfold slotsZ sizeZ
  split
  · simp
  split
  · simp
  split
  · simp
  · simp

set_option maxHeartbeats 400000 in
theorem rsize_any (n : Int) (w : World) :
    Calls Tryd.prog 9 #[.int .i64 n] w fun e w' => e = .returned (.int .i64 (sizeZ n)) ∧ w = w' := by
  have hc := slotsZ_cases n
  generalize hs : slotsZ n = s at hc
  generalize hz : sizeZ n = z at hc ⊢
  have HS := Lib.hid hs
  clear hs hz
  rcases hc with ⟨rfl, rfl⟩ | ⟨h1, h2, h3, h4⟩
  · go_enter Tryd.func9, Tryd.ntmps9
    go_wp2_with (go_at_call 7; refine (rslots_any _ _).mono ?_; rintro e w' ⟨rfl, rfl⟩; rw [HS.out])
    go_ret
    exact ⟨rfl, rfl⟩
  · have H2 := Lib.hid h2
    clear h2
    go_enter Tryd.func9, Tryd.ntmps9
    go_wp2_with (go_at_call 7; refine (rslots_any _ _).mono ?_; rintro e w' ⟨rfl, rfl⟩; rw [HS.out])
    go_ret
    exact ⟨ret_int H2.out.symm, rfl⟩
end Go.Proofs.YtalfkhnadflhnaaDoor
