/- Contracts of package word: Right, Encode, Decode; the document's. -/
import Derived.Test.YtbdpjmamebeonaaDoorWordA
namespace Go.Proofs.YtbdpjmamebeonaaDoor
open Go.RowKit

def rightB (k n : Int) : Bool := nilB k n || datB k n || ptrB k n
def encV (k n : Int) : Int := if nilB k n = true then 0 else if datB k n = true then 2 * n + 1 else if ptrB k n = true then 2 * n + 2 else 0
def encE (k n : Int) : Int := if rightB k n = true then 0 else 1
def decK (x : Int) : Int := if x = 0 then 0 else if x % 2 = 1 then 1 else 2
def decN (x : Int) : Int := if x = 0 then 0 else if x % 2 = 1 then x / 2 else x / 2 - 1

/-- Each value is one of four. -/
theorem sort4 (k n : Int) : (k = 0 ∧ n = 0) ∨ (k = 1 ∧ n ≤ 9223372036854775807) ∨ (k = 2 ∧ n ≤ 9223372036854775806) ∨ (nilB k n = false ∧ datB k n = false ∧ ptrB k n = false) := by
  cases h0 : nilB k n
  · cases h1 : datB k n
    · cases h2 : ptrB k n
      · exact Or.inr (Or.inr (Or.inr ⟨rfl, rfl, rfl⟩))
      · simp [ptrB] at h2
        exact Or.inr (Or.inr (Or.inl h2))
    · simp [datB] at h1
      exact Or.inr (Or.inl h1)
  · simp [nilB] at h0
    exact Or.inl h0
theorem at_dat {n : Int} (h : n ≤ 9223372036854775807) : nilB 1 n = false ∧ datB 1 n = true ∧ ptrB 1 n = false := by simp [nilB, datB, ptrB, h]
theorem at_ptr {n : Int} (h : n ≤ 9223372036854775806) : nilB 2 n = false ∧ datB 2 n = false ∧ ptrB 2 n = true := by simp [nilB, datB, ptrB, h]

set_option maxHeartbeats 400000 in
theorem right_any (k n : Int) (w : World) :
    Calls Tryd.prog 8 #[val k n] w fun e w' => e = .returned (.bool (rightB k n)) ∧ Below w.heap.size w w' := by
  have hb := below_val w k n
  rcases sort4 k n with ⟨rfl, rfl⟩ | ⟨rfl, h⟩ | ⟨rfl, h⟩ | ⟨h0, h1, h2⟩
  ·
    unfold val
    go_enter Tryd.func8, Tryd.ntmps8
    go_wp2_with (go_at_call 14; refine (told_nil _).mono ?_; rintro e w1 ⟨rfl, hb1⟩)
    go_ret
    exact ⟨rfl, below_more hb hb1⟩
  ·
    unfold val
    go_enter Tryd.func8, Tryd.ntmps8
    go_wp2_with (go_at_call 14; refine (told_dat _ _ h).mono ?_; rintro e w1 ⟨rfl, hb1⟩)
    go_ret
    exact ⟨ret_bool (by simp [rightB, at_dat h]), below_more hb hb1⟩
  ·
    unfold val
    go_enter Tryd.func8, Tryd.ntmps8
    go_wp2_with (go_at_call 14; refine (told_ptr _ _ h).mono ?_; rintro e w1 ⟨rfl, hb1⟩)
    go_ret
    exact ⟨ret_bool (by simp [rightB, at_ptr h]), below_more hb hb1⟩
  ·
    have hr : rightB k n = false := by simp [rightB, h0, h1, h2]
    have H := Lib.hid (And.intro h0 (And.intro h1 h2))
    clear h0 h1 h2
    unfold val
    rw [hr]
    clear hr
    go_enter Tryd.func8, Tryd.ntmps8
    go_wp2_with (go_at_call 14; refine (told_no _ _ _ H.out.1 H.out.2.1 H.out.2.2).mono ?_; rintro e w1 ⟨rfl, hb1⟩)
    go_ret
    exact ⟨rfl, below_more hb hb1⟩


/- Type assertions to types that are no interfaces. -/
section
variable {P : Program} {t : TypeId}
theorem ta_same {d : TypeDesc} (hu : P.underlying t = some d) (hd : ∀ m, d ≠ .interface m) (xT : TypeId) (v : Value) (w : World) : (Instr.typeAssert (.iface t v) xT t true).run P w = .ok (.tuple #[v, .bool true]) w := by
  cases d <;> first | exact absurd rfl (hd _) | simp [Instr.typeAssert, run_underlying hu, go_sem, Result.andThen]
theorem ta_is {d : TypeDesc} (hu : P.underlying t = some d) (hd : ∀ m, d ≠ .interface m) (xT : TypeId) (v : Value) (w : World) : (Instr.typeAssert (.iface t v) xT t false).run P w = .ok v w := by
  cases d <;> first | exact absurd rfl (hd _) | simp [Instr.typeAssert, run_underlying hu, go_sem, Result.andThen]
theorem ta_other {d : TypeDesc} {z : Value} (hu : P.underlying t = some d) (hd : ∀ m, d ≠ .interface m) (hz : ∀ w, (zeroValue t).run P w = .ok z w) (u xT : TypeId) (hut : u ≠ t) (v : Value) (w : World) : (Instr.typeAssert (.iface u v) xT t true).run P w = .ok (.tuple #[z, .bool false]) w := by
  cases d <;> first | exact absurd rfl (hd _) | simp [Instr.typeAssert, run_underlying hu, hut, hz, go_sem, Result.andThen]
theorem ta_nil {d : TypeDesc} {z : Value} (hu : P.underlying t = some d) (hd : ∀ m, d ≠ .interface m) (hz : ∀ w, (zeroValue t).run P w = .ok z w) (xT : TypeId) (w : World) : (Instr.typeAssert .nilIface xT t true).run P w = .ok (.tuple #[z, .bool false]) w := by
  cases d <;> first | exact absurd rfl (hd _) | simp [Instr.typeAssert, run_underlying hu, hz, go_sem, Result.andThen]
end
theorem notI {t : TypeId} {d : TypeDesc} (h : Tryd.prog.underlying t = some d) (hb : (match d with | .interface _ => false | _ => true) = true) : ∀ m, d ≠ .interface m := fun m e => by subst e; cases hb
abbrev TX (x : Value) (t : TypeId) (ok : Bool) (y : Value) : Prop := ∀ W : World, (Instr.typeAssert x 20 t ok).run Tryd.prog W = .ok y W
theorem ta_nn (v : Value) : TX (.iface 37 v) 37 true (.tuple #[v, .bool true]) := fun _ => ta_same Tryd.underlying37 (notI Tryd.underlying37 rfl) _ _ _
theorem ta_bn (v : Value) : TX (.iface 39 v) 37 true (.tuple #[.agg #[], .bool false]) := fun _ => ta_other Tryd.underlying37 (notI Tryd.underlying37 rfl) Tryd.zeroValue37 _ _ (by decide) _ _
theorem ta_bb (v : Value) : TX (.iface 39 v) 39 true (.tuple #[v, .bool true]) := fun _ => ta_same Tryd.underlying39 (notI Tryd.underlying39 rfl) _ _ _
theorem ta_cn (v : Value) : TX (.iface 41 v) 37 true (.tuple #[.agg #[], .bool false]) := fun _ => ta_other Tryd.underlying37 (notI Tryd.underlying37 rfl) Tryd.zeroValue37 _ _ (by decide) _ _
theorem ta_cb (v : Value) : TX (.iface 41 v) 39 true (.tuple #[.int .u64 0, .bool false]) := fun _ => ta_other Tryd.underlying39 (notI Tryd.underlying39 rfl) Tryd.zeroValue39 _ _ (by decide) _ _
theorem ta_cc (v : Value) : TX (.iface 41 v) 41 true (.tuple #[v, .bool true]) := fun _ => ta_same Tryd.underlying41 (notI Tryd.underlying41 rfl) _ _ _
theorem ta_ci (v : Value) : TX (.iface 41 v) 41 false v := fun _ => ta_is Tryd.underlying41 (notI Tryd.underlying41 rfl) _ _ _
theorem ta_0n : TX .nilIface 37 true (.tuple #[.agg #[], .bool false]) := fun _ => ta_nil Tryd.underlying37 (notI Tryd.underlying37 rfl) Tryd.zeroValue37 _ _
theorem ta_0b : TX .nilIface 39 true (.tuple #[.int .u64 0, .bool false]) := fun _ => ta_nil Tryd.underlying39 (notI Tryd.underlying39 rfl) Tryd.zeroValue39 _ _
theorem ta_0c : TX .nilIface 41 true (.tuple #[.int .u64 0, .bool false]) := fun _ => ta_nil Tryd.underlying41 (notI Tryd.underlying41 rfl) Tryd.zeroValue41 _ _

set_option maxHeartbeats 400000 in
theorem encode_any (k n : Int) (w : World) (hn : 0 ≤ n) :
    Calls Tryd.prog 5 #[val k n] w fun e w' => e = .returned (.tuple #[.int .u64 (encV k n), .int .i64 (encE k n)]) ∧ Below w.heap.size w w' := by
  have hb := below_val w k n
  rcases sort4 k n with ⟨rfl, rfl⟩ | ⟨rfl, h⟩ | ⟨rfl, h⟩ | ⟨h0, h1, h2⟩
  ·
    have q1 := ta_nn (.agg #[])
    unfold val
    go_enter Tryd.func5, Tryd.ntmps5
    go_wp2_with (go_at_call 14; refine (told_nil _).mono ?_; rintro e w1 ⟨rfl, hb1⟩)
    go_ret2
    exact ⟨rfl, (below_more hb hb1).alloc (Nat.le_trans hb.size hb1.size) _⟩
  ·
    have e1 : encV 1 n = 2 * n + 1 := by simp [encV, at_dat h]
    have e2 : encE 1 n = 0 := by simp [encE, rightB, at_dat h]
    rw [e1, e2]
    clear e1 e2
    have q1 := ta_bn (.int .u64 n)
    have q2 := ta_bb (.int .u64 n)
    unfold val
    go_enter Tryd.func5, Tryd.ntmps5
    go_wp2_with (go_at_call 14; refine (told_dat _ _ h).mono ?_; rintro e w1 ⟨rfl, hb1⟩)
    go_ret2
    exact ⟨rfl, (below_more hb hb1).alloc (Nat.le_trans hb.size hb1.size) _⟩
  ·
    have e1 : encV 2 n = 2 * n + 2 := by simp [encV, at_ptr h]
    have e2 : encE 2 n = 0 := by simp [encE, rightB, at_ptr h]
    rw [e1, e2]
    clear e1 e2
    have q1 := ta_cn (.int .u64 n)
    have q2 := ta_cb (.int .u64 n)
    have q3 := ta_ci (.int .u64 n)
    unfold val
    go_enter Tryd.func5, Tryd.ntmps5
    go_wp2_with (go_at_call 14; refine (told_ptr _ _ h).mono ?_; rintro e w1 ⟨rfl, hb1⟩)
    go_ret2
    exact ⟨rfl, (below_more hb hb1).alloc (Nat.le_trans hb.size hb1.size) _⟩
  ·
    have e1 : encV k n = 0 := by simp [encV, h0, h1, h2]
    have e2 : encE k n = 1 := by simp [encE, rightB, h0, h1, h2]
    have H := Lib.hid (And.intro h0 (And.intro h1 h2))
    clear h0 h1 h2
    rw [e1, e2]
    clear e1 e2
    unfold val
    go_enter Tryd.func5, Tryd.ntmps5
    go_wp2_with (go_at_call 14; refine (told_no _ _ _ H.out.1 H.out.2.1 H.out.2.2).mono ?_; rintro e w1 ⟨rfl, hb1⟩)
    go_ret2
    exact ⟨rfl, below_more hb hb1⟩

section
variable (x : Int) (w : World)
set_option maxHeartbeats 400000 in
theorem decode_any (hx : u64ok x) :
    Calls Tryd.prog 10 #[.int .u64 x] w fun e w' => e = .returned (val (decK x) (decN x)) ∧ Below w.heap.size w w' := by
  obtain ⟨x0, x1⟩ := hx
  unfold val
  by_cases h0 : x = 0
  · subst h0
    go_enter Tryd.func10, Tryd.ntmps10
    go_wp2
    refine bodyPost_ret (results_cell_row rfl _ _ (w.heap.size) 25 _ (0, 0) _ rfl ?_ Tryd.underlying25 rfl (by kernel_rfl)) rfl ⟨rfl, by go_grown⟩
    exact heap_alloc_new _ _
  · by_cases h1 : x % 2 = 1
    · have e1 : decK x = 1 := by simp [decK, h0, h1]
      have e2 : decN x = x / 2 := by simp [decN, h0, h1]
      rw [e1, e2]
      clear e1 e2
      go_enter Tryd.func10, Tryd.ntmps10
      go_wp2
      refine bodyPost_ret (results_cell_row rfl _ _ (w.heap.size) 25 _ (0, 0) _ rfl ?_ Tryd.underlying25 rfl (by kernel_rfl)) rfl ⟨rfl, by go_grown⟩
      exact heap_alloc_new _ _
    · have e1 : decK x = 2 := by simp [decK, h0, h1]
      have e2 : decN x = x / 2 - 1 := by simp [decN, h0, h1]
      rw [e1, e2]
      clear e1 e2
      have hq : 1 ≤ x / 2 := by omega
      go_enter Tryd.func10, Tryd.ntmps10
      go_wp2
      refine bodyPost_ret (results_cell_row rfl _ _ (w.heap.size) 25 _ (0, 0) _ rfl ?_ Tryd.underlying25 rfl (by kernel_rfl)) rfl ⟨rfl, by go_grown⟩
      exact heap_alloc_new _ _
set_option maxHeartbeats 400000 in
theorem rdecode_any (hx : u64ok x) :
    Calls Tryd.prog 11 #[.int .u64 x] w fun e w' => e = .returned (val (decK x) (decN x)) ∧ Below w.heap.size w w' := by
  obtain ⟨x0, x1⟩ := hx
  unfold val
  by_cases h0 : x = 0
  · subst h0
    go_enter Tryd.func11, Tryd.ntmps11
    go_wp2
    refine bodyPost_ret (results_cell_row rfl _ _ (w.heap.size) 25 _ (0, 0) _ rfl ?_ Tryd.underlying25 rfl (by kernel_rfl)) rfl ⟨rfl, by go_grown⟩
    exact heap_alloc_new _ _
  · by_cases h1 : x % 2 = 1
    · have e1 : decK x = 1 := by simp [decK, h0, h1]
      have e2 : decN x = x / 2 := by simp [decN, h0, h1]
      rw [e1, e2]
      clear e1 e2
      go_enter Tryd.func11, Tryd.ntmps11
      go_wp2
      refine bodyPost_ret (results_cell_row rfl _ _ (w.heap.size) 25 _ (0, 0) _ rfl ?_ Tryd.underlying25 rfl (by kernel_rfl)) rfl ⟨rfl, by go_grown⟩
      exact heap_alloc_new _ _
    · have e1 : decK x = 2 := by simp [decK, h0, h1]
      have e2 : decN x = x / 2 - 1 := by simp [decN, h0, h1]
      rw [e1, e2]
      clear e1 e2
      have hq : 1 ≤ x / 2 := by omega
      go_enter Tryd.func11, Tryd.ntmps11
      go_wp2
      refine bodyPost_ret (results_cell_row rfl _ _ (w.heap.size) 25 _ (0, 0) _ rfl ?_ Tryd.underlying25 rfl (by kernel_rfl)) rfl ⟨rfl, by go_grown⟩
      exact heap_alloc_new _ _
end
end Go.Proofs.YtbdpjmamebeonaaDoor
