/- The statement ConfTells as a call: it answers true. -/
import Derived.Test.YtalfkhnadflhnaaDoorConfI
import Derived.Deep.RegionHeld3
namespace Go.Proofs.YtalfkhnadflhnaaDoor
open Go.RowKit
def TL (w : World) (x : Sh) (n t : Int) (A : Option Addr) (L : List Sh) (W : World) : Prop := Lay W ∧ ShAt W w.heap.size 0 x ∧ W.cell? ⟨w.heap.size + 1, 0, none⟩ = some (.int .i64 n) ∧ W.cell? ⟨w.heap.size + 1, 1, none⟩ = some (.int .i64 t) ∧ ShReads W A L ∧ w.heap.size + 2 ≤ W.heap.size ∧ Below w.heap.size w W
section
variable {w : World} {x : Sh} {n t : Int} {A : Option Addr} {L : List Sh} {W : World}
theorem TL.step {w1 : World} (h : TL w x n t A L W) (hb : Below W.heap.size W w1) : TL w x n t A L w1 := by
  obtain ⟨h1, ⟨c0, c1, c2, c3, c4⟩, d0, d1, h3, h4, h5⟩ := h
  have hlt : w.heap.size < W.heap.size := by omega
  have hlt' : w.heap.size + 1 < W.heap.size := by omega
  exact ⟨h1.below hb, ⟨(hb.cell (p := ⟨_, _, none⟩) hlt).trans c0, (hb.cell (p := ⟨_, _, none⟩) hlt).trans c1, (hb.cell (p := ⟨_, _, none⟩) hlt).trans c2, (hb.cell (p := ⟨_, _, none⟩) hlt).trans c3, (hb.cell (p := ⟨_, _, none⟩) hlt).trans c4⟩,
    (hb.cell (p := ⟨_, _, none⟩) hlt').trans d0, (hb.cell (p := ⟨_, _, none⟩) hlt').trans d1, h3.below hb, Nat.le_trans h4 hb.size, below_more h5 hb⟩
theorem TL.drew (h : TL w x n t A L W) : TL w x n t A L W.drew := h.step (Below.refl _ _).drew
theorem tl_S (h : TL w x n t A L W) : W.cell? ⟨w.heap.size, 0, none⟩ = some (.int .i64 x.a) ∧ W.cell? ⟨w.heap.size, 1, none⟩ = some (.int .i64 x.b) ∧ W.cell? ⟨w.heap.size, 2, none⟩ = some (.int .i64 x.c) ∧ W.cell? ⟨w.heap.size, 3, none⟩ = some (.int .i64 x.q) ∧ W.cell? ⟨w.heap.size, 4, none⟩ = some (.int .i64 x.s) ∧ W.cell? ⟨w.heap.size + 1, 0, none⟩ = some (.int .i64 n) ∧ W.cell? ⟨w.heap.size + 1, 1, none⟩ = some (.int .i64 t) ∧ TL w x n t A L W := by
  have h' := h
  obtain ⟨h1, ⟨c0, c1, c2, c3, c4⟩, d0, d1, h3, h4, h5⟩ := h
  exact ⟨c0, by simpa using c1, by simpa using c2, by simpa using c3, by simpa using c4, d0, d1, h'⟩
theorem tl_of (h : W.cell? ⟨w.heap.size, 0, none⟩ = some (.int .i64 x.a) ∧ W.cell? ⟨w.heap.size, 1, none⟩ = some (.int .i64 x.b) ∧ W.cell? ⟨w.heap.size, 2, none⟩ = some (.int .i64 x.c) ∧ W.cell? ⟨w.heap.size, 3, none⟩ = some (.int .i64 x.q) ∧ W.cell? ⟨w.heap.size, 4, none⟩ = some (.int .i64 x.s) ∧ W.cell? ⟨w.heap.size + 1, 0, none⟩ = some (.int .i64 n) ∧ W.cell? ⟨w.heap.size + 1, 1, none⟩ = some (.int .i64 t) ∧ TL w x n t A L W) : TL w x n t A L W := h.2.2.2.2.2.2.2
theorem TL.start (hl : Lay w) (hL : ShReads w A L) : TL w x n t A L ((w.alloc (.cells #[.int .i64 x.a, .int .i64 x.b, .int .i64 x.c, .int .i64 x.q, .int .i64 x.s] 24)).alloc (.cells #[.int .i64 n, .int .i64 t] 26)) := by
  have hb : Below w.heap.size w ((w.alloc (.cells #[.int .i64 x.a, .int .i64 x.b, .int .i64 x.c, .int .i64 x.q, .int .i64 x.s] 24)).alloc (.cells #[.int .i64 n, .int .i64 t] 26)) := ((Below.refl _ _).alloc (Nat.le_refl _) _).alloc (by simp) _
  refine ⟨hl.below hb, ⟨?_, ?_, ?_, ?_, ?_⟩, ?_, ?_, hL.below hb, by simp, hb⟩
  iterate 5 (rw [World.cell?_alloc_past _ _ _ (by simp), World.cell?_alloc_at _ _ _ _ rfl]; rfl)
  all_goals (rw [World.cell?_alloc_at _ _ _ _ (by simp)]; rfl)
theorem tl_slots (h : TL w x n t A L W) : Calls Tryd.prog 6 #[.int .i64 n] W fun e w' => e = .returned (.int .i64 (slotsZ n)) ∧ TL w x n t A L w' :=
  (slots_any n W h.1).mono fun _ _ ⟨he, hb⟩ => ⟨he, hb ▸ h⟩
theorem tl_rslots (h : TL w x n t A L W) : Calls Tryd.prog 7 #[.int .i64 n] W fun e w' => e = .returned (.int .i64 (slotsZ n)) ∧ TL w x n t A L w' :=
  (rslots_any n W).mono fun _ _ ⟨he, hb⟩ => ⟨he, hb ▸ h⟩
theorem tl_size (h : TL w x n t A L W) : Calls Tryd.prog 8 #[.int .i64 n] W fun e w' => e = .returned (.int .i64 (sizeZ n)) ∧ TL w x n t A L w' :=
  (size_any n W h.1).mono fun _ _ ⟨he, hb⟩ => ⟨he, hb ▸ h⟩
theorem tl_rsize (h : TL w x n t A L W) : Calls Tryd.prog 9 #[.int .i64 n] W fun e w' => e = .returned (.int .i64 (sizeZ n)) ∧ TL w x n t A L w' :=
  (rsize_any n W).mono fun _ _ ⟨he, hb⟩ => ⟨he, hb ▸ h⟩
theorem tl_class (hn : n ≤ 9223372036854775807) (h : TL w x n t A L W) : Calls Tryd.prog 10 #[.agg #[.int .i64 x.a, .int .i64 x.b, .int .i64 x.c, .int .i64 x.q, .int .i64 x.s], .int .i64 n] W fun e w' => e = .returned (.int .i64 (classZ x.a x.b x.c x.q x.s n)) ∧ TL w x n t A L w' :=
  (class_any _ _ _ _ _ n W h.1 hn).mono fun _ _ ⟨he, hb⟩ => ⟨he, h.step hb⟩
theorem tl_rclass (h : TL w x n t A L W) : Calls Tryd.prog 11 #[.agg #[.int .i64 x.a, .int .i64 x.b, .int .i64 x.c, .int .i64 x.q, .int .i64 x.s], .int .i64 n] W fun e w' => e = .returned (.int .i64 (classZ x.a x.b x.c x.q x.s n)) ∧ TL w x n t A L w' :=
  (rclass_any _ _ _ _ _ n W).mono fun _ _ ⟨he, hb⟩ => ⟨by rw [he, rclass_eq], h.step hb⟩
theorem tl_at (hn : n ≤ 9223372036854775807) (h : TL w x n t A L W) : Calls Tryd.prog 12 #[.agg #[.int .i64 x.a, .int .i64 x.b, .int .i64 x.c, .int .i64 x.q, .int .i64 x.s], .int .i64 n] W fun e w' => e = .returned (.int .i64 (atZ x.a x.b x.c x.q x.s n)) ∧ TL w x n t A L w' :=
  (at_any _ _ _ _ _ n W h.1 hn).mono fun _ _ ⟨he, hb⟩ => ⟨he, h.step hb⟩
theorem tl_rat (h : TL w x n t A L W) : Calls Tryd.prog 13 #[.agg #[.int .i64 x.a, .int .i64 x.b, .int .i64 x.c, .int .i64 x.q, .int .i64 x.s], .int .i64 n] W fun e w' => e = .returned (.int .i64 (atZ x.a x.b x.c x.q x.s n)) ∧ TL w x n t A L w' :=
  (rat_any _ _ _ _ _ n W).mono fun _ _ ⟨he, hb⟩ => ⟨by rw [he, rat_eq], h.step hb⟩
theorem tl_count (h : TL w x n t A L W) : Calls Tryd.prog 14 #[.agg #[.int .i64 x.a, .int .i64 x.b, .int .i64 x.c, .int .i64 x.q, .int .i64 x.s]] W fun e w' => e = .returned (.int .i64 (countZ x.a x.b x.c x.q x.s)) ∧ TL w x n t A L w' :=
  (count_any _ _ _ _ _ W).mono fun _ _ ⟨he, hb⟩ => ⟨he, h.step hb⟩
theorem tl_rcount (h : TL w x n t A L W) : Calls Tryd.prog 15 #[.agg #[.int .i64 x.a, .int .i64 x.b, .int .i64 x.c, .int .i64 x.q, .int .i64 x.s]] W fun e w' => e = .returned (.int .i64 (countZ x.a x.b x.c x.q x.s)) ∧ TL w x n t A L w' :=
  (rcount_any _ _ _ _ _ W).mono fun _ _ ⟨he, hb⟩ => ⟨by rw [he, rcount_eq], h.step hb⟩
theorem tl_words (h : TL w x n t A L W) : Calls Tryd.prog 16 #[.agg #[.int .i64 x.a, .int .i64 x.b, .int .i64 x.c, .int .i64 x.q, .int .i64 x.s]] W fun e w' => e = .returned (.int .i64 (wordsZ x.a x.b x.c x.q x.s)) ∧ TL w x n t A L w' :=
  (words_any _ _ _ _ _ W h.1).mono fun _ _ ⟨he, hb⟩ => ⟨he, h.step hb⟩
theorem tl_rwords (h : TL w x n t A L W) : Calls Tryd.prog 17 #[.agg #[.int .i64 x.a, .int .i64 x.b, .int .i64 x.c, .int .i64 x.q, .int .i64 x.s]] W fun e w' => e = .returned (.int .i64 (wordsZ x.a x.b x.c x.q x.s)) ∧ TL w x n t A L w' :=
  (rwords_any _ _ _ _ _ W).mono fun _ _ ⟨he, hb⟩ => ⟨by rw [he, rwords_eq], h.step hb⟩
theorem tl_right (cap : Nat) (hlen : L.length ≤ 9223372036854775807) (h : TL w x n t A L W) : Calls Tryd.prog 18 #[.slice A L.length cap] W fun e w' => e = .returned (.bool (rightB L)) ∧ TL w x n t A L w' :=
  (right_any A cap L W h.2.2.2.2.1 hlen).mono fun _ _ ⟨he, hb⟩ => ⟨he, h.step hb⟩
theorem tl_rright (cap : Nat) (hlen : L.length ≤ 9223372036854775807) (h : TL w x n t A L W) : Calls Tryd.prog 19 #[.slice A L.length cap] W fun e w' => e = .returned (.bool (rightB L)) ∧ TL w x n t A L w' :=
  (rright_any A cap L W h.2.2.2.2.1 hlen).mono fun _ _ ⟨he, hb⟩ => ⟨he, h.step hb⟩
theorem tl_base (cap : Nat) (hlen : L.length ≤ 9223372036854775807) (ht : -9223372036854775808 ≤ t) (h : TL w x n t A L W) : Calls Tryd.prog 20 #[.slice A L.length cap, .int .i64 t] W fun e w' => e = .returned (.int .i64 (baseZ L t)) ∧ TL w x n t A L w' :=
  (base_any A cap L t W h.1 h.2.2.2.2.1 hlen ht).mono fun _ _ ⟨he, hb⟩ => ⟨he, h.step hb⟩
theorem tl_rbase (cap : Nat) (hlen : L.length ≤ 9223372036854775807) (ht : -9223372036854775808 ≤ t) (h : TL w x n t A L W) : Calls Tryd.prog 21 #[.slice A L.length cap, .int .i64 t] W fun e w' => e = .returned (.int .i64 (baseZ L t)) ∧ TL w x n t A L w' :=
  (rbase_any A cap L t W h.2.2.2.2.1 hlen ht).mono fun _ _ ⟨he, hb⟩ => ⟨he, h.step hb⟩
theorem tl_alive (h : TL w x n t A L W) : Calls Tryd.prog 5 #[] W fun e w' => e = .returned (.bool true) ∧ TL w x n t A L w' :=
  (alive_any W h.1).mono fun _ _ ⟨he, hb⟩ => ⟨he, h.step hb⟩
end

set_option maxRecDepth 100000 in
set_option maxHeartbeats 1600000 in
theorem tells_any (x : Sh) (n t : Int) (A : Option Addr) (cap : Nat) (L : List Sh) (w : World) (hl : Lay w) (hL : ShReads w A L) (hlen : L.length ≤ 9223372036854775807) (hn : n ≤ 9223372036854775807) (ht : -9223372036854775808 ≤ t) :
    Calls Tryd.prog 3 #[.agg #[.int .i64 x.a, .int .i64 x.b, .int .i64 x.c, .int .i64 x.q, .int .i64 x.s], .slice A L.length cap, .agg #[.int .i64 n, .int .i64 t]] w fun e w' => e = .returned (.bool true) ∧ Below w.heap.size w w' := by
  have hTL := TL.start (x := x) (n := n) (t := t) hl hL
  by_cases h40 : 40 < L.length
  · go_enter Tryd.func3, Tryd.ntmps3
    go_wp2_with (go_at_call 5; refine (tl_alive hTL).mono ?_; rintro e w1 ⟨rfl, hTL⟩)
    go_ret
    exact ⟨rfl, hTL.2.2.2.2.2.2⟩
  · go_enter Tryd.func3, Tryd.ntmps3
    go_wp2_with fail
    generalize ((w.alloc (.cells #[.int .i64 x.a, .int .i64 x.b, .int .i64 x.c, .int .i64 x.q, .int .i64 x.s] 24)).alloc (.cells #[.int .i64 n, .int .i64 t] 26)) = W at *
    go_region_held3 (fun w' => w'.cell? ⟨w.heap.size, 0, none⟩ = some (.int .i64 x.a) ∧ w'.cell? ⟨w.heap.size, 1, none⟩ = some (.int .i64 x.b) ∧ w'.cell? ⟨w.heap.size, 2, none⟩ = some (.int .i64 x.c) ∧ w'.cell? ⟨w.heap.size, 3, none⟩ = some (.int .i64 x.q) ∧ w'.cell? ⟨w.heap.size, 4, none⟩ = some (.int .i64 x.s) ∧ w'.cell? ⟨w.heap.size + 1, 0, none⟩ = some (.int .i64 n) ∧ w'.cell? ⟨w.heap.size + 1, 1, none⟩ = some (.int .i64 t) ∧ TL w x n t A L w') (first | exact tl_S hTL | exact tl_S hTL.drew)
      (first
      | (go_at_call 6; ((with_reducible refine (tl_slots (tl_of (by assumption))).mono ?_); rintro e w1 ⟨rfl, hTL⟩))
      | (go_at_call 7; ((with_reducible refine (tl_rslots (tl_of (by assumption))).mono ?_); rintro e w1 ⟨rfl, hTL⟩))
      | (go_at_call 8; ((with_reducible refine (tl_size (tl_of (by assumption))).mono ?_); rintro e w1 ⟨rfl, hTL⟩))
      | (go_at_call 9; ((with_reducible refine (tl_rsize (tl_of (by assumption))).mono ?_); rintro e w1 ⟨rfl, hTL⟩))
      | (go_at_call 10; ((with_reducible refine (tl_class hn (tl_of (by assumption))).mono ?_); rintro e w1 ⟨rfl, hTL⟩))
      | (go_at_call 11; ((with_reducible refine (tl_rclass (tl_of (by assumption))).mono ?_); rintro e w1 ⟨rfl, hTL⟩))
      | (go_at_call 12; ((with_reducible refine (tl_at hn (tl_of (by assumption))).mono ?_); rintro e w1 ⟨rfl, hTL⟩))
      | (go_at_call 13; ((with_reducible refine (tl_rat (tl_of (by assumption))).mono ?_); rintro e w1 ⟨rfl, hTL⟩)))
    go_wp2_with fail
    go_region_held3 (fun w' => w'.cell? ⟨w.heap.size, 0, none⟩ = some (.int .i64 x.a) ∧ w'.cell? ⟨w.heap.size, 1, none⟩ = some (.int .i64 x.b) ∧ w'.cell? ⟨w.heap.size, 2, none⟩ = some (.int .i64 x.c) ∧ w'.cell? ⟨w.heap.size, 3, none⟩ = some (.int .i64 x.q) ∧ w'.cell? ⟨w.heap.size, 4, none⟩ = some (.int .i64 x.s) ∧ w'.cell? ⟨w.heap.size + 1, 0, none⟩ = some (.int .i64 n) ∧ w'.cell? ⟨w.heap.size + 1, 1, none⟩ = some (.int .i64 t) ∧ TL w x n t A L w') (first | exact tl_S hTL | exact tl_S hTL.drew)
      (first
      | (go_at_call 5; ((with_reducible refine (tl_alive (tl_of (by assumption))).mono ?_); rintro e w1 ⟨rfl, hTL⟩))
      | (go_at_call 14; ((with_reducible refine (tl_count (tl_of (by assumption))).mono ?_); rintro e w1 ⟨rfl, hTL⟩))
      | (go_at_call 15; ((with_reducible refine (tl_rcount (tl_of (by assumption))).mono ?_); rintro e w1 ⟨rfl, hTL⟩))
      | (go_at_call 16; ((with_reducible refine (tl_words (tl_of (by assumption))).mono ?_); rintro e w1 ⟨rfl, hTL⟩))
      | (go_at_call 17; ((with_reducible refine (tl_rwords (tl_of (by assumption))).mono ?_); rintro e w1 ⟨rfl, hTL⟩))
      | (go_at_call 18; ((with_reducible refine (tl_right cap hlen (tl_of (by assumption))).mono ?_); rintro e w1 ⟨rfl, hTL⟩))
      | (go_at_call 19; ((with_reducible refine (tl_rright cap hlen (tl_of (by assumption))).mono ?_); rintro e w1 ⟨rfl, hTL⟩))
      | (go_at_call 20; ((with_reducible refine (tl_base cap hlen ht (tl_of (by assumption))).mono ?_); rintro e w1 ⟨rfl, hTL⟩))
      | (go_at_call 21; ((with_reducible refine (tl_rbase cap hlen ht (tl_of (by assumption))).mono ?_); rintro e w1 ⟨rfl, hTL⟩)))
    go_wp2_with fail
    go_ret
    exact ⟨by simp, hTL.2.2.2.2.2.2⟩
end Go.Proofs.YtalfkhnadflhnaaDoor
