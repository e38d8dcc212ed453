/- New, Begin; Read, Write and Zero of a nil arena; the document's Read, Write and Zero. -/
import Derived.Test.YtogplppamdbikaaArenaB
import Derived.Laws.MakeOwn
namespace Go.Proofs.Ytogplppamdbikaa
open Go.RowKit

theorem madeU64 (n : Nat) : (madeCells #[Value.int .u64 0] n).toList = (List.replicate n (0 : Int)).map (Value.int .u64) := by
  apply List.ext_getElem
  · simp [madeCells]
  · intro i h1 h2
    simp [madeCells, Nat.mod_one]
theorem Try.infoU64 : ∃ i, Try.prog.info? 30 = some i ∧ i.zero = some (.int .u64 0) ∧ i.size = 1 ∧ i.bytes = 8 := ⟨_, rfl, by kernel_rfl, by kernel_rfl, by kernel_rfl⟩
theorem run_words (w : World) (n : Nat) (h : n ≤ 65536) :
    (Instr.makeSlice 38 (.int .i64 n) (.int .i64 n)).run Try.prog w = .ok (.slice (some ⟨w.heap.size, 0, none⟩) n n) (w.alloc (.cells (madeCells #[Value.int .u64 0] n) 30)) := by
  obtain ⟨i, h1, h2, h3, h4⟩ := Try.infoU64
  have := run_make (P := Try.prog) w 38 30 i (.int .u64 0) Try.underlying38 h1 h2 .i64 .i64 n n (by omega) (Int.le_refl _) (by rw [h4]; omega) (by omega)
  rw [h3, Int.toNat_natCast, Nat.mul_one] at this
  exact this
theorem ArAt.made (w : World) (T : TypeId) (n : Nat) (h : n ≤ 65536) :
    ArAt ((w.alloc (.cells (madeCells #[Value.int .u64 0] n) 30)).alloc (.cells #[.slice (some ⟨w.heap.size, 0, none⟩) n n, .int .i64 0] T)) T (w.heap.size + 1) w.heap.size (List.replicate n 0) 0 := by
  refine ⟨?_, ?_, by omega, by unfold i64ok; omega, by simpa using h⟩
  · have := Blk.new (w.alloc (.cells (madeCells #[Value.int .u64 0] n) 30)) #[.slice (some ⟨w.heap.size, 0, none⟩) n n, .int .i64 0] T
    simpa using this
  · have := (Blk.new w (madeCells #[Value.int .u64 0] n) 30).alloc (.cells #[.slice (some ⟨w.heap.size, 0, none⟩) n n, .int .i64 0] T)
    rwa [madeU64] at this

set_option maxHeartbeats 400000 in
theorem new_any (n : Nat) (w : World) (h : n ≤ 65536) :
    Calls Try.prog 6 #[.int .i64 n] w fun e w' => e = .returned (.tuple #[.pointer (some ⟨w.heap.size + 1, 0, none⟩), .int .i64 0]) ∧ ArAt w' 45 (w.heap.size + 1) w.heap.size (List.replicate n 0) 0 ∧ Below w.heap.size w w' := by
  have hmk := run_words w n h
  have HA := Lib.hid (ArAt.made w 45 n h)
  go_enter Try.func6, Try.ntmps6
  go_wp2
  go_ret2
  exact ⟨rfl, HA.out, ((Below.refl _ _).alloc (Nat.le_refl _) _).alloc (by simp) _⟩

set_option maxHeartbeats 400000 in
theorem new_no (n : Int) (w : World) (h : n < 0 ∨ 65536 < n) :
    Calls Try.prog 6 #[.int .i64 n] w fun e w' => e = .returned (.tuple #[.pointer none, .int .i64 1]) ∧ w = w' := by
  by_cases h0 : n < 0
  · clear h
    go_enter Try.func6, Try.ntmps6
    go_wp2
    go_ret2
    exact ⟨rfl, rfl⟩
  · have h1 : 65536 < n := by omega
    have h2 : 0 ≤ n := by omega
    clear h h0
    go_enter Try.func6, Try.ntmps6
    go_wp2
    go_ret2
    exact ⟨rfl, rfl⟩

set_option maxHeartbeats 400000 in
theorem read_nil (at_ : Int) (w : World) :
    Calls Try.prog 8 #[.pointer none, .int .i64 at_] w fun e w' => e = .returned (.tuple #[.int .u64 0, .int .i64 1]) ∧ w = w' := by
  go_enter Try.func8, Try.ntmps8
  go_wp2_with (go_at_call 16; refine (has_nil _ _ _).mono ?_; rintro e w' ⟨rfl, rfl⟩)
  go_ret2
  exact ⟨rfl, rfl⟩
set_option maxHeartbeats 400000 in
theorem write_nil (at_ x : Int) (w : World) :
    Calls Try.prog 12 #[.pointer none, .int .i64 at_, .int .u64 x] w fun e w' => e = .returned (.int .i64 1) ∧ w = w' := by
  go_enter Try.func12, Try.ntmps12
  go_wp2_with (go_at_call 16; refine (has_nil _ _ _).mono ?_; rintro e w' ⟨rfl, rfl⟩)
  go_ret
  exact ⟨rfl, rfl⟩
set_option maxHeartbeats 400000 in
theorem zero_nil (at_ n : Int) (w : World) :
    Calls Try.prog 10 #[.pointer none, .int .i64 at_, .int .i64 n] w fun e w' => e = .returned (.int .i64 1) ∧ w = w' := by
  go_enter Try.func10, Try.ntmps10
  go_wp2_with (go_at_call 16; refine (has_nil _ _ _).mono ?_; rintro e w' ⟨rfl, rfl⟩)
  go_ret
  exact ⟨rfl, rfl⟩
end Go.Proofs.Ytogplppamdbikaa
