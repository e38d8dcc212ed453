/- conf's Count, Words, find, Class, At. -/
import Derived.Test.YtalfkhnadflhnaaDoorConfE
import Derived.Deep.QuietTactic
import Derived.BigQuiet
namespace Go.Proofs.YtalfkhnadflhnaaDoor
open Go.RowKit

theorem quiet_left {P : Program} {f : FuncId} {args : Array Value} {w : World} {n : Nat} {v : Value}
    (h : Calls P f args (w.drewN n) fun e w' => e = .returned v ∧ w.drewN n = w') : Calls P f args (w.drewN n) fun e w'' => e = .returned v ∧ ∃ m, w'' = w.drewN m :=
  h.mono fun _ _ ⟨he, hm⟩ => ⟨he, n, hm.symm⟩
theorem quiet_add_left {P : Program} {f : FuncId} {args : Array Value} {w : World} {a n : Nat} {v : Value}
    (h : Calls P f args (w.drewN (a + n)) fun e w' => e = .returned v ∧ w.drewN (a + n) = w') :
    Calls P f args (w.drewN (a + n)) fun e w'' => e = .returned v ∧ ∃ m, w'' = w.drewN (a + m) :=
  h.mono fun _ _ ⟨he, hm⟩ => ⟨he, n, hm.symm⟩
theorem Lay.drewN {w : World} (h : Lay w) (n : Nat) : Lay (w.drewN n) := h
theorem below_drewN {B : Nat} {a w : World} (h : Below B a w) (n : Nat) : Below B a (w.drewN n) := ⟨h.os, h.tape, h.output, h.size, h.block⟩
def countZ (a b c q s : Int) : Int := if mayB a b c q s = true then a + b + c else 0
def wordsZ (a b c q s : Int) : Int := if mayB a b c q s = true then 2 * a + 3 * b + 5 * c else 0
def cumC (a b c : Int) (k : Nat) : Int := match k with | 0 => 0 | 1 => a | 2 => a + b | _ => a + b + c
def cumW (a b c : Int) (k : Nat) : Int := match k with | 0 => 0 | 1 => 2 * a | 2 => 2 * a + 3 * b | _ => 2 * a + 3 * b + 5 * c
def classZ (a b c q s n : Int) : Int := if mayB a b c q s = true ∧ 0 ≤ n then (if n < a then 0 else if n < a + b then 1 else if n < a + b + c then 2 else -1) else -1
def atZ (a b c q s n : Int) : Int := if mayB a b c q s = true ∧ 0 ≤ n then (if n < a then 2 * n else if n < a + b then 2 * a + 3 * (n - a) else if n < a + b + c then 2 * a + 3 * b + 5 * (n - a - b) else -1) else -1
theorem size0 : sizeZ 0 = 2 := rfl
theorem size1 : sizeZ 1 = 3 := rfl
theorem size2 : sizeZ 2 = 5 := rfl
theorem ret_two {x y x' y' : Int} (h : x = x') (h' : y = y') : Ending.returned (.tuple #[.int .i64 x, .int .i64 y]) = .returned (.tuple #[.int .i64 x', .int .i64 y']) := by rw [h, h']

set_option maxRecDepth 100000 in
set_option maxHeartbeats 400000 in
theorem count_any (a b c q s : Int) (w : World) :
    Calls Tryd.prog 14 #[.agg #[.int .i64 a, .int .i64 b, .int .i64 c, .int .i64 q, .int .i64 s]] w fun e w' => e = .returned (.int .i64 (countZ a b c q s)) ∧ Below w.heap.size w w' := by
  cases hm : mayB a b c q s
  · go_enter Tryd.func14, Tryd.ntmps14
    go_wp2_with (go_at_call 26; refine (mayBe_any _ _ _ _ _ _).mono ?_; rintro e w1 ⟨rfl, hb1⟩)
    go_ret
    exact ⟨ret_int (by simp [countZ, hm]), ((Below.refl _ _).alloc (Nat.le_refl _) _).trans (hb1.mono (by simp))⟩
  · obtain ⟨⟨ha, ha'⟩, ⟨hb, hb'⟩, ⟨hc, hc'⟩, _, _⟩ := mayB_iff.1 hm
    go_enter Tryd.func14, Tryd.ntmps14
    go_wp2_with (go_at_call 26; refine (mayBe_any _ _ _ _ _ _).mono ?_; rintro e w1 ⟨rfl, hb1⟩; obtain ⟨hk1, _⟩ := bcell hb1)
    refine wp_loop_rounds 4 ?_
    repeat (rw [rounds_succ]; go_wp2_with fail)
    go_ret
    exact ⟨ret_int (by simp [countZ, hm]), ((Below.refl _ _).alloc (Nat.le_refl _) _).trans (hb1.mono (by simp))⟩

set_option maxRecDepth 100000 in
set_option maxHeartbeats 400000 in
theorem words_any (a b c q s : Int) (w : World) (hl : Lay w) :
    Calls Tryd.prog 16 #[.agg #[.int .i64 a, .int .i64 b, .int .i64 c, .int .i64 q, .int .i64 s]] w fun e w' => e = .returned (.int .i64 (wordsZ a b c q s)) ∧ Below w.heap.size w w' := by
  cases hm : mayB a b c q s
  · go_enter Tryd.func16, Tryd.ntmps16
    go_wp2_with (go_at_call 26; refine (mayBe_any _ _ _ _ _ _).mono ?_; rintro e w1 ⟨rfl, hb1⟩)
    go_ret
    exact ⟨ret_int (by simp [wordsZ, hm]), ((Below.refl _ _).alloc (Nat.le_refl _) _).trans (hb1.mono (by simp))⟩
  · obtain ⟨⟨ha, ha'⟩, ⟨hb, hb'⟩, ⟨hc, hc'⟩, _, _⟩ := mayB_iff.1 hm
    have hval : wordsZ a b c q s = 2 * a + 3 * b + 5 * c := by simp [wordsZ, hm]
    have HV := Lib.hid hval
    clear hval
    go_enter Tryd.func16, Tryd.ntmps16
    go_wp2_with (go_at_call 26; refine (mayBe_any _ _ _ _ _ _).mono ?_; rintro e w1 ⟨rfl, hb1⟩)
    go_loopw [3, 8] (fun t i wr => ∃ k : Nat, k ≤ 3 ∧ i = .int .i64 k ∧ t = .int .i64 (cumW a b c k) ∧ Below (w.heap.size + 1) (w.alloc (.cells #[.int .i64 a, .int .i64 b, .int .i64 c, .int .i64 q, .int .i64 s] 24)) wr) (fun _ i _ => 3 - (intOf i).toNat)
    case atStart => exact ⟨0, by omega, rfl, rfl, by simpa using hb1⟩
    case round =>
      obtain ⟨k, hk, rfl, rfl, hbr⟩ := hrel
      clear hb1
      have hbw : Below w.heap.size w wr := ((Below.refl _ _).alloc (Nat.le_refl _) _).trans (hbr.mono (by simp))
      have hlr := hl.below hbw
      have q0 : wr.cell? ⟨w.heap.size, 0, none⟩ = some (.int .i64 a) := (hbr.cell (by simp)).trans (by rw [World.cell?_alloc_at _ _ _ _ rfl]; rfl)
      have q1 : wr.cell? ⟨w.heap.size, 1, none⟩ = some (.int .i64 b) := (hbr.cell (by simp)).trans (by rw [World.cell?_alloc_at _ _ _ _ rfl]; rfl)
      have q2 : wr.cell? ⟨w.heap.size, 2, none⟩ = some (.int .i64 c) := (hbr.cell (by simp)).trans (by rw [World.cell?_alloc_at _ _ _ _ rfl]; rfl)
      have z0 := size0
      have z1 := size1
      have z2 := size2
      have : k = 0 ∨ k = 1 ∨ k = 2 ∨ k = 3 := by omega
      rcases this with rfl | rfl | rfl | rfl
      · simp only [cumW]
        go_wp2_with fail
        go_quiet ((go_at_call 8; exact quiet_left (size_any _ _ (hlr.drewN _))))
        go_wp2_with fail
        go_roundw
        case rel => exact ⟨1, by omega, by go_num, by go_num, below_drewN hbr _⟩
        case measure => simp [intOf]
      · simp only [cumW]
        go_wp2_with fail
        go_quiet ((go_at_call 8; exact quiet_left (size_any _ _ (hlr.drewN _))))
        go_wp2_with fail
        go_roundw
        case rel => exact ⟨2, by omega, by go_num, by go_num, below_drewN hbr _⟩
        case measure => simp [intOf]
      · simp only [cumW]
        go_wp2_with fail
        go_quiet ((go_at_call 8; exact quiet_left (size_any _ _ (hlr.drewN _))))
        go_wp2_with fail
        go_roundw
        case rel => exact ⟨3, by omega, by go_num, by go_num, below_drewN hbr _⟩
        case measure => simp [intOf]
      · simp only [cumW]
        go_wp2_with fail
        go_ret
        exact ⟨ret_int (by rw [HV.out]), hbw⟩
end Go.Proofs.YtalfkhnadflhnaaDoor
