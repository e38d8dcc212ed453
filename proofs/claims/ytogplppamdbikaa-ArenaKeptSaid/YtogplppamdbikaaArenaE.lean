/- The live question: alive answers true, and leaves what was there as it was. -/
import Derived.Test.YtogplppamdbikaaArenaC
namespace Go.Proofs.Ytogplppamdbikaa
open Go.RowKit

/-- What an arena of eight words holds in the live question: nothing; 7 at place 3. -/
def A0 : List Int := [0, 0, 0, 0, 0, 0, 0, 0]
def A1 : List Int := [0, 0, 0, 7, 0, 0, 0, 0]
/-- The arena in the live question, with so many touches. -/
def Al (w0 w : World) (L : List Int) (t : Int) : Prop := ArAt w 45 (w0.heap.size + 1) w0.heap.size L t ∧ Below w0.heap.size w0 w
theorem Al.next {w0 w w' : World} {L L' : List Int} {t t' : Int} (h : Al w0 w L t) (a : ArAt w' 45 (w0.heap.size + 1) w0.heap.size L' t') (o : Only [w0.heap.size + 1, w0.heap.size] w w') : Al w0 w' L' t' :=
  ⟨a, h.2.trans (o.below h.2.size (by simp))⟩
theorem Al.to {w0 w w' : World} {L L' L'' : List Int} {t t' t'' : Int} (h : Al w0 w L t) (a : ArAt w' 45 (w0.heap.size + 1) w0.heap.size L' t') (o : Only [w0.heap.size + 1, w0.heap.size] w w') (hL : L' = L'') (ht : t' = t'') : Al w0 w' L'' t'' := by
  subst hL ht; exact h.next a o
section
variable {w0 w : World}
theorem al_new (w : World) : Calls Try.prog 6 #[.int .i64 8] w fun e w' => e = .returned (.tuple #[.pointer (some ⟨w.heap.size + 1, 0, none⟩), .int .i64 0]) ∧ Al w w' A0 0 :=
  (new_any 8 w (by omega)).mono fun _ _ ⟨he, ha, hb⟩ => ⟨he, ha, hb⟩
theorem al_write1 (h : Al w0 w A0 0) : Calls Try.prog 12 #[.pointer (some ⟨w0.heap.size + 1, 0, none⟩), .int .i64 3, .int .u64 7] w fun e w' => e = .returned (.int .i64 0) ∧ Al w0 w' A1 1 :=
  (write_any _ _ _ _ 3 7 _ h.1 (by omega)).mono fun _ _ ⟨he, ha, hb⟩ => ⟨he, h.to ha hb (by decide +kernel) (by decide +kernel)⟩
theorem al_write2 (h : Al w0 w A1 1) : Calls Try.prog 12 #[.pointer (some ⟨w0.heap.size + 1, 0, none⟩), .int .i64 8, .int .u64 1] w fun e w' => e = .returned (.int .i64 1) ∧ Al w0 w' A1 1 :=
  (write_any _ _ _ _ 8 1 _ h.1 (by omega)).mono fun _ _ ⟨he, ha, hb⟩ => ⟨he, h.next ha hb⟩
theorem al_read1 (h : Al w0 w A1 1) : Calls Try.prog 8 #[.pointer (some ⟨w0.heap.size + 1, 0, none⟩), .int .i64 3] w fun e w' => e = .returned (.tuple #[.int .u64 7, .int .i64 0]) ∧ Al w0 w' A1 2 :=
  (read_any _ _ _ _ 3 _ h.1 (by omega)).mono fun _ _ ⟨he, ha, hb⟩ => ⟨he, h.to ha hb (by decide +kernel) (by decide +kernel)⟩
theorem al_zero1 (h : Al w0 w A1 2) : Calls Try.prog 10 #[.pointer (some ⟨w0.heap.size + 1, 0, none⟩), .int .i64 2, .int .i64 4] w fun e w' => e = .returned (.int .i64 0) ∧ Al w0 w' A0 6 :=
  (zero_any _ _ _ _ 2 4 _ h.1 (by omega)).mono fun _ _ ⟨he, ha, hb⟩ => ⟨he, h.to ha hb (by decide +kernel) (by decide +kernel)⟩
theorem al_zero2 (h : Al w0 w A0 6) : Calls Try.prog 10 #[.pointer (some ⟨w0.heap.size + 1, 0, none⟩), .int .i64 6, .int .i64 3] w fun e w' => e = .returned (.int .i64 1) ∧ Al w0 w' A0 6 :=
  (zero_any _ _ _ _ 6 3 _ h.1 (by omega)).mono fun _ _ ⟨he, ha, hb⟩ => ⟨he, h.next ha hb⟩
theorem al_read2 (h : Al w0 w A0 6) : Calls Try.prog 8 #[.pointer (some ⟨w0.heap.size + 1, 0, none⟩), .int .i64 3] w fun e w' => e = .returned (.tuple #[.int .u64 0, .int .i64 0]) ∧ Al w0 w' A0 7 :=
  (read_any _ _ _ _ 3 _ h.1 (by omega)).mono fun _ _ ⟨he, ha, hb⟩ => ⟨he, h.to ha hb (by decide +kernel) (by decide +kernel)⟩
theorem al_touched (h : Al w0 w A0 7) : Calls Try.prog 14 #[.pointer (some ⟨w0.heap.size + 1, 0, none⟩)] w fun e w' => e = .returned (.int .i64 7) ∧ w = w' := touched_any _ _ _ _ _ h.1
theorem al_len (h : Al w0 w A0 7) : Calls Try.prog 15 #[.pointer (some ⟨w0.heap.size + 1, 0, none⟩)] w fun e w' => e = .returned (.int .i64 8) ∧ w = w' := len_any _ _ _ _ _ h.1
theorem al_zero3 (h : Al w0 w A0 7) : Calls Try.prog 10 #[.pointer (some ⟨w0.heap.size + 1, 0, none⟩), .int .i64 8, .int .i64 0] w fun e w' => e = .returned (.int .i64 0) ∧ Below w0.heap.size w0 w' :=
  (zero_any _ _ _ _ 8 0 _ h.1 (by omega)).mono fun _ _ ⟨he, ha, hb⟩ => ⟨he, (h.next ha hb).2⟩
end

set_option maxRecDepth 100000 in
set_option maxHeartbeats 1000000 in
theorem alive2_any (w : World) : Calls Try.prog 5 #[] w fun e w' => e = .returned (.bool true) ∧ Below w.heap.size w w' := by
  go_enter Try.func5, Try.ntmps5
  go_wp2_with fail
  refine (al_new _).mono ?_
  rintro e v1 ⟨rfl, a1⟩
  go_wp2_with fail
  refine (al_write1 a1).mono ?_
  rintro e v2 ⟨rfl, a2⟩
  go_wp2_with fail
  refine (al_write2 a2).mono ?_
  rintro e v3 ⟨rfl, a3⟩
  go_wp2_with fail
  refine (al_read1 a3).mono ?_
  rintro e v4 ⟨rfl, a4⟩
  go_wp2_with fail
  refine (al_zero1 a4).mono ?_
  rintro e v5 ⟨rfl, a5⟩
  go_wp2_with fail
  refine (al_zero2 a5).mono ?_
  rintro e v6 ⟨rfl, a6⟩
  go_wp2_with fail
  refine (al_read2 a6).mono ?_
  rintro e v7 ⟨rfl, a7⟩
  go_wp2_with (first
    | (go_at_call 14; refine (al_touched a7).mono ?_; rintro e w' ⟨rfl, rfl⟩)
    | (go_at_call 15; refine (al_len a7).mono ?_; rintro e w' ⟨rfl, rfl⟩)
    | (go_at_call 10; refine (al_zero3 a7).mono ?_; rintro e v8 ⟨rfl, b8⟩))
  go_ret
  exact ⟨rfl, b8⟩
end Go.Proofs.Ytogplppamdbikaa
