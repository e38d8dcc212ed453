/- A set in a law's world, with a list beside it; acts among the arguments; alive. -/
import Derived.Test.YtkcmngekiknikaaRootD
import Derived.Deep.QuietTactic
import Derived.BigQuiet
import Derived.StillTailTactics
namespace Go.Proofs.Ytkcmngekiknikaa
namespace Rt
open Go.RowKit Go.Maps

structure Act8 where
  k : Int
  c : Int
def Act8.ok (x : Act8) : Prop := 0 ≤ x.k ∧ x.k ≤ 255 ∧ i64ok x.c
def ActAt (w : World) (b o : Nat) (x : Act8) : Prop := w.cell? ⟨b, o, none⟩ = some (.int .u8 x.k) ∧ w.cell? ⟨b, o + 1, none⟩ = some (.int .i64 x.c)
def ActReads (w : World) (A : Option Addr) (L : List Act8) : Prop := ∀ k x, L[k]? = some x → x.ok ∧ ∃ b off, A = some ⟨b, off, none⟩ ∧ b < w.heap.size ∧ ActAt w b (off + k * 2) x
theorem ActAt.keep {w w' : World} {b o : Nat} {x : Act8} (h : ActAt w b o x) (hlt : b < w.heap.size) (hb : Below w.heap.size w w') : ActAt w' b o x :=
  ⟨(hb.cell (p := ⟨b, _, none⟩) hlt).trans h.1, (hb.cell (p := ⟨b, _, none⟩) hlt).trans h.2⟩

/-- The set (l) behind what there was in w0; beside it a slice u that owns k. -/
structure PS (w0 w : World) (s m : Nat) (l : List Int) (u : Value) (k : List Int) : Prop where
  rt : RtIn w s m l
  inc : Inc l
  los : w0.heap.size ≤ s
  lom : w0.heap.size ≤ m
  own : Own w u k
  below : Below w0.heap.size w0 w
section
variable {w0 w w' : World} {s m : Nat} {l l' k : List Int} {u y : Value}
theorem PS.more (h : PS w0 w s m l u k) (hb : Below w.heap.size w w') : PS w0 w' s m l u k := ⟨h.rt.below hb, h.inc, h.los, h.lom, h.own.below hb, below_more h.below hb⟩
theorem PS.drewN (h : PS w0 w s m l u k) (n : Nat) : PS w0 (w.drewN n) s m l u k := ⟨h.rt.drewN n, h.inc, h.los, h.lom, h.own, below_drewN h.below n⟩
theorem PS.drew (h : PS w0 w s m l u k) : PS w0 w.drew s m l u k := ⟨h.rt.drew, h.inc, h.los, h.lom, h.own, h.below.drew⟩
theorem PS.turn (h : PS w0 w s m l u k) (hr : RtIn w' s m l') (hi : Inc l') (ho : Only [m] w w') : PS w0 w' s m l' u k := by
  obtain ⟨es, c, he, _⟩ := h.rt.own
  exact ⟨hr, hi, h.los, h.lom, h.own.only ho (h.own.ne_map he), h.below.trans (ho.below h.below.size (by have := h.lom; simp; omega))⟩
theorem PS.with (h : PS w0 w s m l u k) (hy : Own w y l') : PS w0 w s m l y l' := ⟨h.rt, h.inc, h.los, h.lom, hy, h.below⟩
theorem ps_new (w : World) : Calls Try.prog 6 #[] w fun e w' => e = .returned (.pointer (some ⟨w.heap.size + 1, 0, none⟩)) ∧ PS w w' (w.heap.size + 1) w.heap.size [] (.slice none 0 0) [] :=
  (newS_any w).mono fun _ _ ⟨he, hr, hb⟩ => ⟨he, hr, Inc.nil, by omega, by omega, Own.nil _, hb⟩
theorem ps_add (h : PS w0 w s m l u k) (x : Int) (hx : i64ok x) : Calls Try.prog 9 #[.pointer (some ⟨s, 0, none⟩), .int .i64 x] w fun e w' => e = .returned (.tuple #[.bool (addA l x), .int .i64 (addE x)]) ∧ PS w0 w' s m (addS l x) u k :=
  (add_any x hx h.inc h.rt).mono fun _ _ ⟨he, hr, ho⟩ => ⟨he, h.turn hr (addS_inc h.inc x) ho⟩
theorem ps_drop (h : PS w0 w s m l u k) (x : Int) (hx : i64ok x) : Calls Try.prog 7 #[.pointer (some ⟨s, 0, none⟩), .int .i64 x] w fun e w' => e = .returned (.int .i64 (dropE l x)) ∧ PS w0 w' s m (dropS l x) u k :=
  (drop_any x hx h.rt).mono fun _ _ ⟨he, hr, ho⟩ => ⟨he, h.turn hr (dropS_inc h.inc x) ho⟩
theorem ps_radd (h : PS w0 w s m l u k) (hk : Inc k) (x : Int) : Calls Try.prog 10 #[u, .int .i64 x] w fun e w' => ∃ v, e = .returned (.tuple #[v, .bool (addA k x), .int .i64 (addE x)]) ∧ PS w0 w' s m l v (addS k x) :=
  (radd_any x hk h.own).mono fun _ _ ⟨v, he, hv, hb⟩ => ⟨v, he, (h.more hb).with hv⟩
theorem ps_rdrop (h : PS w0 w s m l u k) (hk : Inc k) (x : Int) : Calls Try.prog 8 #[u, .int .i64 x] w fun e w' => ∃ v, e = .returned (.tuple #[v, .int .i64 (dropE k x)]) ∧ PS w0 w' s m l v (dropS k x) :=
  (rdrop_any x hk h.own).mono fun _ _ ⟨v, he, hv, hb⟩ => ⟨v, he, (h.more hb).with hv⟩
theorem ps_all (h : PS w0 w s m l u k) : Calls Try.prog 12 #[.pointer (some ⟨s, 0, none⟩)] w fun e w' => ∃ y, e = .returned y ∧ Own w' y l ∧ PS w0 w' s m l u k :=
  (all_any h.inc h.rt).mono fun _ _ ⟨y, he, hy, hb⟩ => ⟨y, he, hy, h.more hb⟩
theorem ps_ints (h : PS w0 w s m l u k) (hk : k.length ≤ 1000) (hy : Own w y k) : Calls Try.prog 11 #[y, u] w fun e w' => e = .returned (.bool true) ∧ PS w0 w' s m l u k :=
  (ints_any k hk w y u hy h.own).mono fun _ _ ⟨he, hb⟩ => ⟨he, h.more hb⟩
theorem ps_has (h : PS w0 w s m l u k) (x : Int) (hx : i64ok x) : Calls Try.prog 14 #[.pointer (some ⟨s, 0, none⟩), .int .i64 x] w fun e w' => e = .returned (.bool (hasB l x)) ∧ w = w' := has_any x hx h.rt
theorem ps_len (h : PS w0 w s m l u k) : Calls Try.prog 13 #[.pointer (some ⟨s, 0, none⟩)] w fun e w' => e = .returned (.int .i64 l.length) ∧ w = w' := len_any h.rt
theorem ps_rhas (h : PS w0 w s m l u k) (x : Int) : Calls Try.prog 15 #[u, .int .i64 x] w fun e w' => e = .returned (.bool (hasB k x)) ∧ w = w' := rhas_any k x w u h.own
end

/-- A slice that has just been built. -/
theorem own_built (w : World) (L : List Int) (h : L.length ≤ 1000) : Own (w.alloc (.cells (vals L).toArray 3)) (.slice (some ⟨w.heap.size, 0, none⟩) L.length L.length) L := by
  refine ⟨by simp [vals], .inr ⟨w.heap.size, L.length, (vals L).toArray, rfl, Nat.zero_le _, ?_, Nat.le_refl _, by unfold maxLen; omega, by simp [vals], ?_⟩⟩
  · have := Blk.new w (vals L).toArray 3
    unfold Blk at this
    simpa using this
  · rw [List.take_of_length_le (by simp [vals])]

section
variable {w0 w : World} {s m : Nat} {u y : Value} {k : List Int}
theorem i64_small {x : Int} (h0 : -1000 ≤ x) (h1 : x ≤ 1000) : i64ok x := by unfold i64ok; omega
theorem al_add (l : List Int) (x : Int) (a : Bool) (e : Int) (l' : List Int) (h : PS w0 w s m l u k) (h0 : -1000 ≤ x) (h1 : x ≤ 1000) (ha : addA l x = a) (he : addE x = e) (hl : addS l x = l') :
    Calls Try.prog 9 #[.pointer (some ⟨s, 0, none⟩), .int .i64 x] w fun e' w' => e' = .returned (.tuple #[.bool a, .int .i64 e]) ∧ PS w0 w' s m l' u k := by
  subst ha he hl; exact ps_add h x (i64_small h0 h1)
theorem al_drop (l : List Int) (x e : Int) (l' : List Int) (h : PS w0 w s m l u k) (h0 : -1000 ≤ x) (h1 : x ≤ 1000) (he : dropE l x = e) (hl : dropS l x = l') :
    Calls Try.prog 7 #[.pointer (some ⟨s, 0, none⟩), .int .i64 x] w fun e' w' => e' = .returned (.int .i64 e) ∧ PS w0 w' s m l' u k := by
  subst he hl; exact ps_drop h x (i64_small h0 h1)
theorem al_has (l : List Int) (x : Int) (b : Bool) (h : PS w0 w s m l u k) (h0 : -1000 ≤ x) (h1 : x ≤ 1000) (hb : hasB l x = b) :
    Calls Try.prog 14 #[.pointer (some ⟨s, 0, none⟩), .int .i64 x] w fun e' w' => e' = .returned (.bool b) ∧ w = w' := by
  subst hb; exact ps_has h x (i64_small h0 h1)
end

set_option maxRecDepth 100000 in
set_option maxHeartbeats 1600000 in
theorem alive8_any (w : World) : Calls Try.prog 5 #[] w fun e w' => e = .returned (.bool true) ∧ Below w.heap.size w w' := by
  go_enter Try.func5, Try.ntmps5
  go_wp2_with fail
  refine (ps_new _).mono ?_
  rintro e v1 ⟨rfl, a1⟩
  go_wp2_with fail
  refine (al_add [] 9 true 0 [9] a1 (by omega) (by omega) (by decide +kernel) (by decide +kernel) (by decide +kernel)).mono ?_
  rintro e v2 ⟨rfl, a2⟩
  go_wp2_with fail
  refine (al_add [9] 4 true 0 [4, 9] a2 (by omega) (by omega) (by decide +kernel) (by decide +kernel) (by decide +kernel)).mono ?_
  rintro e v3 ⟨rfl, a3⟩
  go_wp2_with fail
  refine (al_add [4, 9] 9 false 0 [4, 9] a3 (by omega) (by omega) (by decide +kernel) (by decide +kernel) (by decide +kernel)).mono ?_
  rintro e v4 ⟨rfl, a4⟩
  go_wp2_with fail
  refine (al_add [4, 9] 192 false 1 [4, 9] a4 (by omega) (by omega) (by decide +kernel) (by decide +kernel) (by decide +kernel)).mono ?_
  rintro e v5 ⟨rfl, a5⟩
  go_wp2_with fail
  refine (ps_all a5).mono ?_
  rintro e v6 ⟨y, rfl, hy, a6⟩
  have a6 := a6.with hy
  clear hy
  go_wp2_with fail
  refine (al_drop [4, 9] 9 0 [4] a6 (by omega) (by omega) (by decide +kernel) (by decide +kernel)).mono ?_
  rintro e v7 ⟨rfl, a7⟩
  go_wp2_with fail
  refine (al_drop [4] 9 9 [4] a7 (by omega) (by omega) (by decide +kernel) (by decide +kernel)).mono ?_
  rintro e v8 ⟨rfl, a8⟩
  have a8' := a8.more ((Below.refl _ v8).alloc (Nat.le_refl _) (.cells #[.int .i64 4, .int .i64 9] 3))
  have o8 : Own (v8.alloc (.cells #[.int .i64 4, .int .i64 9] 3)) (.slice (some ⟨v8.heap.size, 0, none⟩) 2 2) [4, 9] := own_built v8 [4, 9] (by simp)
  have c9 : Calls Try.prog 11 #[y, .slice (some ⟨v8.heap.size, 0, none⟩) 2 2] (v8.alloc (.cells #[.int .i64 4, .int .i64 9] 3)) fun e w' => e = .returned (.bool true) ∧ PS w w' (w.heap.size + 1) w.heap.size [4] y [4, 9] :=
    (ints_any [4, 9] (by simp) _ _ _ a8'.own o8).mono fun _ _ ⟨he, hb⟩ => ⟨he, a8'.more hb⟩
  clear a8 a8' o8
  go_wp2_with fail
  refine c9.mono ?_
  rintro e v9 ⟨rfl, a9⟩
  go_wp2_with fail
  refine (al_drop [4] (-1) 1 [4] a9 (by omega) (by omega) (by decide +kernel) (by decide +kernel)).mono ?_
  rintro e v10 ⟨rfl, a10⟩
  go_wp2_with fail
  refine (al_has [4] 4 true a10 (by omega) (by omega) (by decide +kernel)).mono ?_
  rintro e v11 ⟨rfl, rfl⟩
  go_wp2_with fail
  refine (al_has [4] 9 false a10 (by omega) (by omega) (by decide +kernel)).mono ?_
  rintro e v11 ⟨rfl, rfl⟩
  go_wp2_with fail
  refine (ps_len a10).mono ?_
  rintro e v11 ⟨rfl, rfl⟩
  go_wp2_with fail
  go_ret
  exact ⟨rfl, a10.below⟩
end Rt
end Go.Proofs.Ytkcmngekiknikaa
