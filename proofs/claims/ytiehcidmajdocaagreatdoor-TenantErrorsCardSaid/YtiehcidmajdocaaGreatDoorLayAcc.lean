/- An account in memory; New, Charge, Refund, Used, Limit; the document's. -/
import Derived.Test.YtiehcidmajdocaaGreatDoorLayBase
namespace Go.Proofs.YtiehcidmajdocaaGreatDoor
namespace Ac
open Go.RowKit

/-! ### what a call answers, and leaves -/
def chE (u t n : Int) : Int := if n < 0 then 1 else if t - u < n then 7 else 0
def chS (u t n : Int) : Int := if n < 0 then u else if t - u < n then u else u + n
def rfE (u n : Int) : Int := if n < 0 then 1 else if u < n then 1 else 0
def rfS (u n : Int) : Int := if n < 0 then u else if u < n then u else u - n
/-- What may be used, of a limit. -/
structure Fit (u t : Int) : Prop where
  u0 : 0 ≤ u
  ut : u ≤ t
  t1 : t ≤ 65536
/-- The account a: u of t are used. -/
structure AcAt (w : World) (a : Nat) (u t : Int) : Prop where
  blk : Blk w a 206 [.int .i64 u, .int .i64 t]
  fit : Fit u t
section
variable {w w' : World} {a : Nat} {u t n : Int}
theorem AcAt.c0 (h : AcAt w a u t) : w.cell? ⟨a, 0, none⟩ = some (.int .i64 u) := h.blk.cell rfl
theorem AcAt.c1 (h : AcAt w a u t) : w.cell? ⟨a, 1, none⟩ = some (.int .i64 t) := h.blk.cell rfl
theorem AcAt.f0 (h : AcAt w a u t) : w.frozen? ⟨a, 0, none⟩ = false := h.blk.free 0
theorem AcAt.drewN (h : AcAt w a u t) (n : Nat) : AcAt (w.drewN n) a u t := ⟨h.blk, h.fit⟩
theorem AcAt.put (h : AcAt w a u t) {u' : Int} (hf : Fit u' t) : AcAt (w.setCell ⟨a, 0, none⟩ (.int .i64 u')) a u' t := ⟨h.blk.set 0 _, hf⟩


set_option maxRecDepth 100000 in
set_option maxHeartbeats 400000 in
theorem up_no (h : AcAt w a u t) (h0 : 0 ≤ n) (hn : t - u < n) (hi : i64ok n) :
    Calls Tryz.prog 184 #[.pointer (some ⟨a, 0, none⟩), .int .i64 n] w fun e w' => e = .returned (.bool false) ∧ AcAt w' a u t ∧ Only [a] w w' := by
  have c0 := h.c0
  have c1 := h.c1
  obtain ⟨u0, ut, t1⟩ := h.fit
  have hi' := hi
  unfold i64ok at hi'
  go_enter Tryz.func184, Tryz.ntmps184
  go_wp2_with fail
  go_quiet (fail)
  go_wp2_with fail
  go_ret
  exact ⟨rfl, h.drewN _, (Only.refl _ _).drewN _⟩
set_option maxRecDepth 100000 in
set_option maxHeartbeats 400000 in
theorem up_yes (h : AcAt w a u t) (h0 : 0 ≤ n) (hn : n ≤ t - u) :
    Calls Tryz.prog 184 #[.pointer (some ⟨a, 0, none⟩), .int .i64 n] w fun e w' => e = .returned (.bool true) ∧ AcAt w' a (u + n) t ∧ Only [a] w w' := by
  have c0 := h.c0
  have c1 := h.c1
  have f0 := h.f0
  obtain ⟨u0, ut, t1⟩ := h.fit
  have hf : Fit (u + n) t := ⟨by omega, by omega, t1⟩
  go_enter Tryz.func184, Tryz.ntmps184
  go_wp2_with fail
  go_quiet (fail)
  go_wp2_with fail
  go_ret
  exact ⟨rfl, (h.drewN _).put hf, ((Only.refl _ _).drewN _).setCell (.inl (by simp)) _⟩
set_option maxRecDepth 100000 in
set_option maxHeartbeats 400000 in
theorem down_no (h : AcAt w a u t) (hn : u < n) :
    Calls Tryz.prog 186 #[.pointer (some ⟨a, 0, none⟩), .int .i64 n] w fun e w' => e = .returned (.bool false) ∧ AcAt w' a u t ∧ Only [a] w w' := by
  have c0 := h.c0
  go_enter Tryz.func186, Tryz.ntmps186
  go_wp2_with fail
  go_ret
  exact ⟨rfl, h, Only.refl _ _⟩
set_option maxRecDepth 100000 in
set_option maxHeartbeats 400000 in
theorem down_yes (h : AcAt w a u t) (h0 : 0 ≤ n) (hn : n ≤ u) :
    Calls Tryz.prog 186 #[.pointer (some ⟨a, 0, none⟩), .int .i64 n] w fun e w' => e = .returned (.bool true) ∧ AcAt w' a (u - n) t ∧ Only [a] w w' := by
  have c0 := h.c0
  have f0 := h.f0
  obtain ⟨u0, ut, t1⟩ := h.fit
  have hf : Fit (u - n) t := ⟨by omega, by omega, t1⟩
  go_enter Tryz.func186, Tryz.ntmps186
  go_wp2_with fail
  go_ret
  exact ⟨rfl, h.put hf, (Only.refl _ _).setCell (.inl (by simp)) _⟩

set_option maxRecDepth 100000 in
set_option maxHeartbeats 400000 in
theorem charge_any (h : AcAt w a u t) (hi : i64ok n) :
    Calls Tryz.prog 134 #[.pointer (some ⟨a, 0, none⟩), .int .i64 n] w fun e w' => e = .returned (.int .i64 (chE u t n)) ∧ AcAt w' a (chS u t n) t ∧ Only [a] w w' := by
  unfold chE chS
  by_cases h0 : n < 0
  · rw [if_pos h0, if_pos h0]
    go_enter Tryz.func134, Tryz.ntmps134
    go_wp2_with fail
    go_ret
    exact ⟨rfl, h, Only.refl _ _⟩
  have h0' : 0 ≤ n := by omega
  rw [if_neg h0, if_neg h0]
  clear h0
  by_cases h1 : t - u < n
  · rw [if_pos h1, if_pos h1]
    have hc := up_no h h0' h1 hi
    clear h1
    go_enter Tryz.func134, Tryz.ntmps134
    go_wp2_with fail
    refine hc.mono ?_
    rintro e w1 ⟨rfl, h1, o1⟩
    go_wp2_with fail
    go_ret
    exact ⟨rfl, h1, o1⟩
  · rw [if_neg h1, if_neg h1]
    have hc := up_yes h h0' (by omega)
    clear h1
    go_enter Tryz.func134, Tryz.ntmps134
    go_wp2_with fail
    refine hc.mono ?_
    rintro e w1 ⟨rfl, h1, o1⟩
    go_wp2_with fail
    go_ret
    exact ⟨rfl, h1, o1⟩
set_option maxRecDepth 100000 in
set_option maxHeartbeats 400000 in
theorem refund_any (h : AcAt w a u t) :
    Calls Tryz.prog 136 #[.pointer (some ⟨a, 0, none⟩), .int .i64 n] w fun e w' => e = .returned (.int .i64 (rfE u n)) ∧ AcAt w' a (rfS u n) t ∧ Only [a] w w' := by
  unfold rfE rfS
  by_cases h0 : n < 0
  · rw [if_pos h0, if_pos h0]
    go_enter Tryz.func136, Tryz.ntmps136
    go_wp2_with fail
    go_ret
    exact ⟨rfl, h, Only.refl _ _⟩
  have h0' : 0 ≤ n := by omega
  rw [if_neg h0, if_neg h0]
  clear h0
  by_cases h1 : u < n
  · rw [if_pos h1, if_pos h1]
    have hc := down_no h h1
    clear h1
    go_enter Tryz.func136, Tryz.ntmps136
    go_wp2_with fail
    refine hc.mono ?_
    rintro e w1 ⟨rfl, h1, o1⟩
    go_wp2_with fail
    go_ret
    exact ⟨rfl, h1, o1⟩
  · rw [if_neg h1, if_neg h1]
    have hc := down_yes h h0' (by omega)
    clear h1
    go_enter Tryz.func136, Tryz.ntmps136
    go_wp2_with fail
    refine hc.mono ?_
    rintro e w1 ⟨rfl, h1, o1⟩
    go_wp2_with fail
    go_ret
    exact ⟨rfl, h1, o1⟩
set_option maxRecDepth 100000 in
set_option maxHeartbeats 400000 in
theorem used_any (h : AcAt w a u t) : Calls Tryz.prog 121 #[.pointer (some ⟨a, 0, none⟩)] w fun e w' => e = .returned (.int .i64 u) ∧ w = w' := by
  have c0 := h.c0
  go_enter Tryz.func121, Tryz.ntmps121
  go_wp2_with fail
  go_ret
  exact ⟨rfl, rfl⟩
end

section
variable (w : World)
set_option maxRecDepth 100000 in
set_option maxHeartbeats 400000 in
theorem new_any (t : Int) (h0 : 0 ≤ t) (h1 : t ≤ 65536) : Calls Tryz.prog 125 #[.int .i64 t] w fun e w' => e = .returned (.tuple #[.pointer (some ⟨w.heap.size, 0, none⟩), .int .i64 0]) ∧ AcAt w' w.heap.size 0 t ∧ Below w.heap.size w w' := by
  have HA := Lib.hid (AcAt.mk (Blk.new w #[.int .i64 0, .int .i64 t] 206) ⟨Int.le_refl 0, h0, h1⟩)
  go_enter Tryz.func125, Tryz.ntmps125
  go_wp2_with fail
  go_ret2
  exact ⟨rfl, HA.out, (Below.refl _ _).alloc (Nat.le_refl _) _⟩
end

end Ac
end Go.Proofs.YtiehcidmajdocaaGreatDoor
