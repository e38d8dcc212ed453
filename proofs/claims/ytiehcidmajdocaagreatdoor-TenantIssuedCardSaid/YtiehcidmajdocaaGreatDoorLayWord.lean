/- Contracts of package word: told. Contracts of package word: Right, Encode, Decode; the document's. The document's Right and Encode. -/
import Derived.Test.YtiehcidmajdocaaGreatDoorLayBase
namespace Go.Proofs.YtiehcidmajdocaaGreatDoor
namespace Wd
open Go.RowKit

def val (k n : Int) : Value := .agg #[.int .i64 k, .int .u64 n]
def u64ok (n : Int) : Prop := 0 ≤ n ∧ n ≤ 18446744073709551615
/-- Nil, data, a pointer, or what may not be. -/
def nilB (k n : Int) : Bool := (k == 0) && (n == 0)
def datB (k n : Int) : Bool := (k == 1) && decide (n ≤ 9223372036854775807)
def ptrB (k n : Int) : Bool := (k == 2) && decide (n ≤ 9223372036854775806)

theorem below_val (w : World) (k n : Int) : Below w.heap.size w (w.alloc (.cells #[.int .i64 k, .int .u64 n] 53)) := (Below.refl _ _).alloc (Nat.le_refl _) _

set_option maxHeartbeats 400000 in
theorem told_nil (w : World) :
    Calls Tryz.prog 221 #[val 0 0] w fun e w' => e = .returned (.iface 241 (.agg #[])) ∧ Below w.heap.size w w' := by
  unfold val
  go_enter Tryz.func221, Tryz.ntmps221
  go_wp2
  go_ret
  exact ⟨rfl, below_val _ _ _⟩
set_option maxHeartbeats 400000 in
theorem told_dat (n : Int) (w : World) (h : n ≤ 9223372036854775807) :
    Calls Tryz.prog 221 #[val 1 n] w fun e w' => e = .returned (.iface 242 (.int .u64 n)) ∧ Below w.heap.size w w' := by
  unfold val
  go_enter Tryz.func221, Tryz.ntmps221
  go_wp2
  go_ret
  exact ⟨rfl, below_val _ _ _⟩
set_option maxHeartbeats 400000 in
theorem told_ptr (n : Int) (w : World) (h : n ≤ 9223372036854775806) :
    Calls Tryz.prog 221 #[val 2 n] w fun e w' => e = .returned (.iface 243 (.int .u64 n)) ∧ Below w.heap.size w w' := by
  unfold val
  go_enter Tryz.func221, Tryz.ntmps221
  go_wp2
  go_ret
  exact ⟨rfl, below_val _ _ _⟩
set_option maxHeartbeats 400000 in
theorem told_no (k n : Int) (w : World) (h0 : nilB k n = false) (h1 : datB k n = false) (h2 : ptrB k n = false) :
    Calls Tryz.prog 221 #[val k n] w fun e w' => e = .returned .nilIface ∧ Below w.heap.size w w' := by
  unfold val
  unfold nilB at h0
  unfold datB at h1
  unfold ptrB at h2
  cases k0 : (k == 0)
  · cases k1 : (k == 1)
    · cases k2 : (k == 2)
      · clear h0 h1 h2
        go_enter Tryz.func221, Tryz.ntmps221
        go_wp2
        go_ret
        exact ⟨rfl, below_val _ _ _⟩
      · rw [k2, Bool.true_and] at h2
        clear h0 h1
        go_enter Tryz.func221, Tryz.ntmps221
        go_wp2
        go_ret
        exact ⟨rfl, below_val _ _ _⟩
    · obtain rfl : k = 1 := by simpa using k1
      rw [Bool.and_eq_false_iff] at h1
      have h1 := h1.resolve_left (by simp)
      clear h0 h2 k0 k1
      go_enter Tryz.func221, Tryz.ntmps221
      go_wp2
      go_ret
      exact ⟨rfl, below_val _ _ _⟩
  · obtain rfl : k = 0 := by simpa using k0
    rw [Bool.and_eq_false_iff] at h0
    have h0 := h0.resolve_left (by simp)
    clear h1 h2 k0
    go_enter Tryz.func221, Tryz.ntmps221
    go_wp2
    go_ret
    exact ⟨rfl, below_val _ _ _⟩
end Wd
end Go.Proofs.YtiehcidmajdocaaGreatDoor

namespace Go.Proofs.YtiehcidmajdocaaGreatDoor
namespace Wd
open Go.RowKit

def rightB (k n : Int) : Bool := nilB k n || datB k n || ptrB k n
def encV (k n : Int) : Int := if nilB k n = true then 0 else if datB k n = true then 2 * n + 1 else if ptrB k n = true then 2 * n + 2 else 0
def encE (k n : Int) : Int := if rightB k n = true then 0 else 1
def decK (x : Int) : Int := if x = 0 then 0 else if x % 2 = 1 then 1 else 2
def decN (x : Int) : Int := if x = 0 then 0 else if x % 2 = 1 then x / 2 else x / 2 - 1

/-- Each value is one of four. -/
theorem sort4 (k n : Int) : (k = 0 ∧ n = 0) ∨ (k = 1 ∧ n ≤ 9223372036854775807) ∨ (k = 2 ∧ n ≤ 9223372036854775806) ∨ (nilB k n = false ∧ datB k n = false ∧ ptrB k n = false) := by
  cases h0 : nilB k n
  · cases h1 : datB k n
    · cases h2 : ptrB k n
      · exact Or.inr (Or.inr (Or.inr ⟨rfl, rfl, rfl⟩))
      · simp [ptrB] at h2
        exact Or.inr (Or.inr (Or.inl h2))
    · simp [datB] at h1
      exact Or.inr (Or.inl h1)
  · simp [nilB] at h0
    exact Or.inl h0
theorem at_dat {n : Int} (h : n ≤ 9223372036854775807) : nilB 1 n = false ∧ datB 1 n = true ∧ ptrB 1 n = false := by simp [nilB, datB, ptrB, h]
theorem at_ptr {n : Int} (h : n ≤ 9223372036854775806) : nilB 2 n = false ∧ datB 2 n = false ∧ ptrB 2 n = true := by simp [nilB, datB, ptrB, h]

set_option maxHeartbeats 400000 in
theorem right_any (k n : Int) (w : World) :
    Calls Tryz.prog 190 #[val k n] w fun e w' => e = .returned (.bool (rightB k n)) ∧ Below w.heap.size w w' := by
  have hb := below_val w k n
  rcases sort4 k n with ⟨rfl, rfl⟩ | ⟨rfl, h⟩ | ⟨rfl, h⟩ | ⟨h0, h1, h2⟩
  ·
    unfold val
    go_enter Tryz.func190, Tryz.ntmps190
    go_wp2_with (go_at_call 221; refine (told_nil _).mono ?_; rintro e w1 ⟨rfl, hb1⟩)
    go_ret
    exact ⟨rfl, below_more hb hb1⟩
  ·
    unfold val
    go_enter Tryz.func190, Tryz.ntmps190
    go_wp2_with (go_at_call 221; refine (told_dat _ _ h).mono ?_; rintro e w1 ⟨rfl, hb1⟩)
    go_ret
    exact ⟨ret_bool (by simp [rightB, at_dat h]), below_more hb hb1⟩
  ·
    unfold val
    go_enter Tryz.func190, Tryz.ntmps190
    go_wp2_with (go_at_call 221; refine (told_ptr _ _ h).mono ?_; rintro e w1 ⟨rfl, hb1⟩)
    go_ret
    exact ⟨ret_bool (by simp [rightB, at_ptr h]), below_more hb hb1⟩
  ·
    have hr : rightB k n = false := by simp [rightB, h0, h1, h2]
    have H := Lib.hid (And.intro h0 (And.intro h1 h2))
    clear h0 h1 h2
    unfold val
    rw [hr]
    clear hr
    go_enter Tryz.func190, Tryz.ntmps190
    go_wp2_with (go_at_call 221; refine (told_no _ _ _ H.out.1 H.out.2.1 H.out.2.2).mono ?_; rintro e w1 ⟨rfl, hb1⟩)
    go_ret
    exact ⟨rfl, below_more hb hb1⟩


/- Type assertions to types that are no interfaces. -/
section
variable {P : Program} {t : TypeId}
theorem ta_same {d : TypeDesc} (hu : P.underlying t = some d) (hd : ∀ m, d ≠ .interface m) (xT : TypeId) (v : Value) (w : World) : (Instr.typeAssert (.iface t v) xT t true).run P w = .ok (.tuple #[v, .bool true]) w := by
  cases d <;> first | exact absurd rfl (hd _) | simp [Instr.typeAssert, run_underlying hu, go_sem, Result.andThen]
theorem ta_is {d : TypeDesc} (hu : P.underlying t = some d) (hd : ∀ m, d ≠ .interface m) (xT : TypeId) (v : Value) (w : World) : (Instr.typeAssert (.iface t v) xT t false).run P w = .ok v w := by
  cases d <;> first | exact absurd rfl (hd _) | simp [Instr.typeAssert, run_underlying hu, go_sem, Result.andThen]
theorem ta_other {d : TypeDesc} {z : Value} (hu : P.underlying t = some d) (hd : ∀ m, d ≠ .interface m) (hz : ∀ w, (zeroValue t).run P w = .ok z w) (u xT : TypeId) (hut : u ≠ t) (v : Value) (w : World) : (Instr.typeAssert (.iface u v) xT t true).run P w = .ok (.tuple #[z, .bool false]) w := by
  cases d <;> first | exact absurd rfl (hd _) | simp [Instr.typeAssert, run_underlying hu, hut, hz, go_sem, Result.andThen]
end
theorem notI {t : TypeId} {d : TypeDesc} (h : Tryz.prog.underlying t = some d) (hb : (match d with | .interface _ => false | _ => true) = true) : ∀ m, d ≠ .interface m := fun m e => by subst e; cases hb
abbrev TX (x : Value) (t : TypeId) (ok : Bool) (y : Value) : Prop := ∀ W : World, (Instr.typeAssert x 20 t ok).run Tryz.prog W = .ok y W
theorem ta_nn (v : Value) : TX (.iface 241 v) 241 true (.tuple #[v, .bool true]) := fun _ => ta_same Tryz.underlying241 (notI Tryz.underlying241 rfl) _ _ _
theorem ta_bn (v : Value) : TX (.iface 242 v) 241 true (.tuple #[.agg #[], .bool false]) := fun _ => ta_other Tryz.underlying241 (notI Tryz.underlying241 rfl) Tryz.zeroValue241 _ _ (by decide) _ _
theorem ta_bb (v : Value) : TX (.iface 242 v) 242 true (.tuple #[v, .bool true]) := fun _ => ta_same Tryz.underlying242 (notI Tryz.underlying242 rfl) _ _ _
theorem ta_cn (v : Value) : TX (.iface 243 v) 241 true (.tuple #[.agg #[], .bool false]) := fun _ => ta_other Tryz.underlying241 (notI Tryz.underlying241 rfl) Tryz.zeroValue241 _ _ (by decide) _ _
theorem ta_cb (v : Value) : TX (.iface 243 v) 242 true (.tuple #[.int .u64 0, .bool false]) := fun _ => ta_other Tryz.underlying242 (notI Tryz.underlying242 rfl) Tryz.zeroValue242 _ _ (by decide) _ _
theorem ta_ci (v : Value) : TX (.iface 243 v) 243 false v := fun _ => ta_is Tryz.underlying243 (notI Tryz.underlying243 rfl) _ _ _
set_option maxHeartbeats 400000 in
theorem encode_any (k n : Int) (w : World) (hn : 0 ≤ n) :
    Calls Tryz.prog 222 #[val k n] w fun e w' => e = .returned (.tuple #[.int .u64 (encV k n), .int .i64 (encE k n)]) ∧ Below w.heap.size w w' := by
  have hb := below_val w k n
  rcases sort4 k n with ⟨rfl, rfl⟩ | ⟨rfl, h⟩ | ⟨rfl, h⟩ | ⟨h0, h1, h2⟩
  ·
    have q1 := ta_nn (.agg #[])
    unfold val
    go_enter Tryz.func222, Tryz.ntmps222
    go_wp2_with (go_at_call 221; refine (told_nil _).mono ?_; rintro e w1 ⟨rfl, hb1⟩)
    go_ret2
    exact ⟨rfl, (below_more hb hb1).alloc (Nat.le_trans hb.size hb1.size) _⟩
  ·
    have e1 : encV 1 n = 2 * n + 1 := by simp [encV, at_dat h]
    have e2 : encE 1 n = 0 := by simp [encE, rightB, at_dat h]
    rw [e1, e2]
    clear e1 e2
    have q1 := ta_bn (.int .u64 n)
    have q2 := ta_bb (.int .u64 n)
    unfold val
    go_enter Tryz.func222, Tryz.ntmps222
    go_wp2_with (go_at_call 221; refine (told_dat _ _ h).mono ?_; rintro e w1 ⟨rfl, hb1⟩)
    go_ret2
    exact ⟨rfl, (below_more hb hb1).alloc (Nat.le_trans hb.size hb1.size) _⟩
  ·
    have e1 : encV 2 n = 2 * n + 2 := by simp [encV, at_ptr h]
    have e2 : encE 2 n = 0 := by simp [encE, rightB, at_ptr h]
    rw [e1, e2]
    clear e1 e2
    have q1 := ta_cn (.int .u64 n)
    have q2 := ta_cb (.int .u64 n)
    have q3 := ta_ci (.int .u64 n)
    unfold val
    go_enter Tryz.func222, Tryz.ntmps222
    go_wp2_with (go_at_call 221; refine (told_ptr _ _ h).mono ?_; rintro e w1 ⟨rfl, hb1⟩)
    go_ret2
    exact ⟨rfl, (below_more hb hb1).alloc (Nat.le_trans hb.size hb1.size) _⟩
  ·
    have e1 : encV k n = 0 := by simp [encV, h0, h1, h2]
    have e2 : encE k n = 1 := by simp [encE, rightB, h0, h1, h2]
    have H := Lib.hid (And.intro h0 (And.intro h1 h2))
    clear h0 h1 h2
    rw [e1, e2]
    clear e1 e2
    unfold val
    go_enter Tryz.func222, Tryz.ntmps222
    go_wp2_with (go_at_call 221; refine (told_no _ _ _ H.out.1 H.out.2.1 H.out.2.2).mono ?_; rintro e w1 ⟨rfl, hb1⟩)
    go_ret2
    exact ⟨rfl, below_more hb hb1⟩

section
variable (x : Int) (w : World)
set_option maxHeartbeats 400000 in
theorem decode_any (hx : u64ok x) :
    Calls Tryz.prog 132 #[.int .u64 x] w fun e w' => e = .returned (val (decK x) (decN x)) ∧ Below w.heap.size w w' := by
  obtain ⟨x0, x1⟩ := hx
  unfold val
  by_cases h0 : x = 0
  · subst h0
    go_enter Tryz.func132, Tryz.ntmps132
    go_wp2
    refine bodyPost_ret (results_cell_row rfl _ _ (w.heap.size) 53 _ (0, 0) _ rfl ?_ Tryz.underlying53 rfl (by kernel_rfl)) rfl ⟨rfl, by go_grown⟩
    exact heap_alloc_new _ _
  · by_cases h1 : x % 2 = 1
    · have e1 : decK x = 1 := by simp [decK, h0, h1]
      have e2 : decN x = x / 2 := by simp [decN, h0, h1]
      rw [e1, e2]
      clear e1 e2
      go_enter Tryz.func132, Tryz.ntmps132
      go_wp2
      refine bodyPost_ret (results_cell_row rfl _ _ (w.heap.size) 53 _ (0, 0) _ rfl ?_ Tryz.underlying53 rfl (by kernel_rfl)) rfl ⟨rfl, by go_grown⟩
      exact heap_alloc_new _ _
    · have e1 : decK x = 2 := by simp [decK, h0, h1]
      have e2 : decN x = x / 2 - 1 := by simp [decN, h0, h1]
      rw [e1, e2]
      clear e1 e2
      have hq : 1 ≤ x / 2 := by omega
      go_enter Tryz.func132, Tryz.ntmps132
      go_wp2
      refine bodyPost_ret (results_cell_row rfl _ _ (w.heap.size) 53 _ (0, 0) _ rfl ?_ Tryz.underlying53 rfl (by kernel_rfl)) rfl ⟨rfl, by go_grown⟩
      exact heap_alloc_new _ _
end
end Wd
end Go.Proofs.YtiehcidmajdocaaGreatDoor

namespace Go.Proofs.YtiehcidmajdocaaGreatDoor
namespace Wd
open Go.RowKit

end Wd
end Go.Proofs.YtiehcidmajdocaaGreatDoor
