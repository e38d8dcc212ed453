/- An account in a law's world; alive. -/
import Derived.Test.YtochablpchcgfaaAccA
import Derived.Deep.QuietTactic
import Derived.BigQuiet
namespace Go.Proofs.Ytochablpchcgfaa
namespace Ac
open Go.RowKit

/-- The account, behind what there was in w0. -/
structure AS (w0 w : World) (a : Nat) (u t : Int) : Prop where
  ac : AcAt w a u t
  lo : w0.heap.size ≤ a
  below : Below w0.heap.size w0 w
section
variable {w0 w w' : World} {a : Nat} {u u' t n : Int}
theorem AS.more (h : AS w0 w a u t) (hb : Below w.heap.size w w') : AS w0 w' a u t := ⟨h.ac.below hb, h.lo, below_more h.below hb⟩
theorem AS.drewN (h : AS w0 w a u t) (n : Nat) : AS w0 (w.drewN n) a u t := ⟨h.ac.drewN n, h.lo, below_drewN h.below n⟩
theorem AS.drew (h : AS w0 w a u t) : AS w0 w.drew a u t := ⟨h.ac.drew, h.lo, h.below.drew⟩
theorem AS.turn (h : AS w0 w a u t) (hc : AcAt w' a u' t) (ho : Only [a] w w') : AS w0 w' a u' t :=
  ⟨hc, h.lo, h.below.trans (ho.below h.below.size (by have := h.lo; simp; omega))⟩
theorem as_new (w : World) (h0 : 0 ≤ t) (h1 : t ≤ 65536) : Calls Try.prog 6 #[.int .i64 t] w fun e w' => e = .returned (.tuple #[.pointer (some ⟨w.heap.size, 0, none⟩), .int .i64 0]) ∧ AS w w' w.heap.size 0 t :=
  (new_any w t h0 h1).mono fun _ _ ⟨he, hc, hb⟩ => ⟨he, hc, Nat.le_refl _, hb⟩
theorem as_charge (h : AS w0 w a u t) (hi : i64ok n) : Calls Try.prog 9 #[.pointer (some ⟨a, 0, none⟩), .int .i64 n] w fun e w' => e = .returned (.int .i64 (chE u t n)) ∧ AS w0 w' a (chS u t n) t :=
  (charge_any h.ac hi).mono fun _ _ ⟨he, hc, ho⟩ => ⟨he, h.turn hc ho⟩
theorem as_refund (h : AS w0 w a u t) : Calls Try.prog 7 #[.pointer (some ⟨a, 0, none⟩), .int .i64 n] w fun e w' => e = .returned (.int .i64 (rfE u n)) ∧ AS w0 w' a (rfS u n) t :=
  (refund_any h.ac).mono fun _ _ ⟨he, hc, ho⟩ => ⟨he, h.turn hc ho⟩
theorem as_used (h : AS w0 w a u t) : Calls Try.prog 11 #[.pointer (some ⟨a, 0, none⟩)] w fun e w' => e = .returned (.int .i64 u) ∧ w = w' := used_any h.ac
theorem as_limit (h : AS w0 w a u t) : Calls Try.prog 12 #[.pointer (some ⟨a, 0, none⟩)] w fun e w' => e = .returned (.int .i64 t) ∧ w = w' := limit_any h.ac

theorem i64_small {x : Int} (h0 : -100000 ≤ x) (h1 : x ≤ 100000) : i64ok x := by unfold i64ok; omega
theorem al_charge (u t n e u' : Int) (h : AS w0 w a u t) (h0 : -100000 ≤ n) (h1 : n ≤ 100000) (he : chE u t n = e) (hs : chS u t n = u') :
    Calls Try.prog 9 #[.pointer (some ⟨a, 0, none⟩), .int .i64 n] w fun e' w' => e' = .returned (.int .i64 e) ∧ AS w0 w' a u' t := by
  subst he hs; exact as_charge h (i64_small h0 h1)
theorem al_refund (u t n e u' : Int) (h : AS w0 w a u t) (he : rfE u n = e) (hs : rfS u n = u') :
    Calls Try.prog 7 #[.pointer (some ⟨a, 0, none⟩), .int .i64 n] w fun e' w' => e' = .returned (.int .i64 e) ∧ AS w0 w' a u' t := by
  subst he hs; exact as_refund h
end

set_option maxRecDepth 100000 in
set_option maxHeartbeats 1600000 in
theorem alive12_any (w : World) : Calls Try.prog 5 #[] w fun e w' => e = .returned (.bool true) ∧ Below w.heap.size w w' := by
  go_enter Try.func5, Try.ntmps5
  go_wp2_with fail
  refine (as_new _ (by omega) (by omega)).mono ?_
  rintro e v1 ⟨rfl, a1⟩
  go_wp2_with fail
  refine (al_charge 0 10 7 0 7 a1 (by omega) (by omega) (by decide +kernel) (by decide +kernel)).mono ?_
  rintro e v2 ⟨rfl, a2⟩
  go_wp2_with fail
  refine (al_charge 7 10 4 7 7 a2 (by omega) (by omega) (by decide +kernel) (by decide +kernel)).mono ?_
  rintro e v3 ⟨rfl, a3⟩
  go_wp2_with fail
  refine (al_charge 7 10 3 0 10 a3 (by omega) (by omega) (by decide +kernel) (by decide +kernel)).mono ?_
  rintro e v4 ⟨rfl, a4⟩
  go_wp2_with fail
  refine (al_refund 10 10 11 1 10 a4 (by decide +kernel) (by decide +kernel)).mono ?_
  rintro e v5 ⟨rfl, a5⟩
  go_wp2_with fail
  refine (al_refund 10 10 6 0 4 a5 (by decide +kernel) (by decide +kernel)).mono ?_
  rintro e v6 ⟨rfl, a6⟩
  go_wp2_with fail
  refine (new_no _ 65537 (by omega)).mono ?_
  rintro e v7 ⟨rfl, rfl⟩
  go_wp2_with fail
  refine (as_used a6).mono ?_
  rintro e v7 ⟨rfl, rfl⟩
  go_wp2_with fail
  refine (as_limit a6).mono ?_
  rintro e v7 ⟨rfl, rfl⟩
  go_wp2_with fail
  refine (al_charge 4 10 (-1) 1 4 a6 (by omega) (by omega) (by decide +kernel) (by decide +kernel)).mono ?_
  rintro e v8 ⟨rfl, a8⟩
  go_wp2_with fail
  go_ret
  exact ⟨rfl, a8.below⟩
end Ac
end Go.Proofs.Ytochablpchcgfaa
