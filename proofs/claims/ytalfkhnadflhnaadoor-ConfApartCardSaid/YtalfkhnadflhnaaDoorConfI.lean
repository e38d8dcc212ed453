/- alive. -/
import Derived.Test.YtalfkhnadflhnaaDoorConfH
namespace Go.Proofs.YtalfkhnadflhnaaDoor
open Go.RowKit
def aS : Sh := ⟨2, 1, 3, 9, 1⟩
def aL : List Sh := [⟨2, 1, 3, 9, 1⟩, ⟨0, 0, 64, 0, 4294967294⟩]
def AL (w : World) (W : World) : Prop := Lay W ∧ ShAt W w.heap.size 0 aS ∧ ShReads W (some ⟨w.heap.size + 1, 0, none⟩) aL ∧ w.heap.size + 2 ≤ W.heap.size ∧ Below w.heap.size w W
theorem AL.step {w W w1 : World} (h : AL w W) (hb : Below W.heap.size W w1) : AL w w1 := by
  obtain ⟨h1, ⟨c0, c1, c2, c3, c4⟩, h3, h4, h5⟩ := h
  have hlt : w.heap.size < W.heap.size := by omega
  exact ⟨h1.below hb, ⟨(hb.cell (p := ⟨_, _, none⟩) hlt).trans c0, (hb.cell (p := ⟨_, _, none⟩) hlt).trans c1, (hb.cell (p := ⟨_, _, none⟩) hlt).trans c2, (hb.cell (p := ⟨_, _, none⟩) hlt).trans c3, (hb.cell (p := ⟨_, _, none⟩) hlt).trans c4⟩,
    h3.below hb, Nat.le_trans h4 hb.size, below_more h5 hb⟩
theorem AL.cells {w W : World} (h : AL w W) : W.cell? ⟨w.heap.size, 0, none⟩ = some (.int .i64 2) ∧ W.cell? ⟨w.heap.size, 1, none⟩ = some (.int .i64 1) ∧ W.cell? ⟨w.heap.size, 2, none⟩ = some (.int .i64 3) ∧ W.cell? ⟨w.heap.size, 3, none⟩ = some (.int .i64 9) ∧ W.cell? ⟨w.heap.size, 4, none⟩ = some (.int .i64 1) := by
  obtain ⟨c0, c1, c2, c3, c4⟩ := h.2.1
  exact ⟨c0, by simpa [aS] using c1, by simpa [aS] using c2, by simpa [aS] using c3, by simpa [aS] using c4⟩
theorem AL.start (w : World) (hl : Lay w) : AL w ((w.alloc (.cells #[.int .i64 2, .int .i64 1, .int .i64 3, .int .i64 9, .int .i64 1] 24)).alloc (.cells #[.int .i64 2, .int .i64 1, .int .i64 3, .int .i64 9, .int .i64 1, .int .i64 0, .int .i64 0, .int .i64 64, .int .i64 0, .int .i64 4294967294] 24)) := by
  have hb : Below w.heap.size w ((w.alloc (.cells #[.int .i64 2, .int .i64 1, .int .i64 3, .int .i64 9, .int .i64 1] 24)).alloc (.cells #[.int .i64 2, .int .i64 1, .int .i64 3, .int .i64 9, .int .i64 1, .int .i64 0, .int .i64 0, .int .i64 64, .int .i64 0, .int .i64 4294967294] 24)) := ((Below.refl _ _).alloc (Nat.le_refl _) _).alloc (by simp) _
  refine ⟨hl.below hb, ⟨?_, ?_, ?_, ?_, ?_⟩, ?_, by simp, hb⟩
  iterate 5 (rw [World.cell?_alloc_past _ _ _ (by simp), World.cell?_alloc_at _ _ _ _ rfl]; rfl)
  intro k x hx
  match k, hx with
  | 0, hx =>
    simp [aL] at hx; subst hx
    refine ⟨_, _, rfl, by simp, ?_, ?_, ?_, ?_, ?_⟩
    all_goals (rw [World.cell?_alloc_at _ _ _ _ (by simp)]; rfl)
  | 1, hx =>
    simp [aL] at hx; subst hx
    refine ⟨_, _, rfl, by simp, ?_, ?_, ?_, ?_, ?_⟩
    all_goals (rw [World.cell?_alloc_at _ _ _ _ (by simp)]; rfl)
  | k + 2, hx => simp [aL] at hx
theorem al_slots {w W : World} (h : AL w W) : Calls Tryd.prog 6 #[.int .i64 2] W fun e w' => e = .returned (.int .i64 4) ∧ AL w w' :=
  (slots_any 2 W h.1).mono fun _ _ ⟨he, hb⟩ => ⟨he, hb ▸ h⟩
theorem al_size0 {w W : World} (h : AL w W) : Calls Tryd.prog 8 #[.int .i64 0] W fun e w' => e = .returned (.int .i64 2) ∧ AL w w' :=
  (size_any 0 W h.1).mono fun _ _ ⟨he, hb⟩ => ⟨he, hb ▸ h⟩
theorem al_size3 {w W : World} (h : AL w W) : Calls Tryd.prog 8 #[.int .i64 3] W fun e w' => e = .returned (.int .i64 0) ∧ AL w w' :=
  (size_any 3 W h.1).mono fun _ _ ⟨he, hb⟩ => ⟨he, hb ▸ h⟩
theorem al_right {w W : World} (h : AL w W) : Calls Tryd.prog 18 #[.slice (some ⟨w.heap.size + 1, 0, none⟩) 2 2] W fun e w' => e = .returned (.bool true) ∧ AL w w' :=
  (right_any _ 2 aL W h.2.2.1 (by decide)).mono fun _ _ ⟨he, hb⟩ => ⟨by rw [he, show rightB aL = true from by decide], h.step hb⟩
theorem al_right0 {w W : World} (h : AL w W) : Calls Tryd.prog 18 #[.slice none 0 0] W fun e w' => e = .returned (.bool false) ∧ AL w w' :=
  (right_any none 0 [] W (fun k x hx => by simp at hx) (by decide)).mono fun _ _ ⟨he, hb⟩ => ⟨by rw [he, show rightB [] = false from by decide], h.step hb⟩
theorem al_count {w W : World} (h : AL w W) : Calls Tryd.prog 14 #[.agg #[.int .i64 2, .int .i64 1, .int .i64 3, .int .i64 9, .int .i64 1]] W fun e w' => e = .returned (.int .i64 6) ∧ AL w w' :=
  (count_any 2 1 3 9 1 W).mono fun _ _ ⟨he, hb⟩ => ⟨by rw [he, show countZ 2 1 3 9 1 = 6 from by decide], h.step hb⟩
theorem al_class2 {w W : World} (h : AL w W) : Calls Tryd.prog 10 #[.agg #[.int .i64 2, .int .i64 1, .int .i64 3, .int .i64 9, .int .i64 1], .int .i64 2] W fun e w' => e = .returned (.int .i64 1) ∧ AL w w' :=
  (class_any 2 1 3 9 1 2 W h.1 (by decide)).mono fun _ _ ⟨he, hb⟩ => ⟨by rw [he, show classZ 2 1 3 9 1 2 = 1 from by decide], h.step hb⟩
theorem al_class6 {w W : World} (h : AL w W) : Calls Tryd.prog 10 #[.agg #[.int .i64 2, .int .i64 1, .int .i64 3, .int .i64 9, .int .i64 1], .int .i64 6] W fun e w' => e = .returned (.int .i64 (-1)) ∧ AL w w' :=
  (class_any 2 1 3 9 1 6 W h.1 (by decide)).mono fun _ _ ⟨he, hb⟩ => ⟨by rw [he, show classZ 2 1 3 9 1 6 = -1 from by decide], h.step hb⟩
theorem al_at2 {w W : World} (h : AL w W) : Calls Tryd.prog 12 #[.agg #[.int .i64 2, .int .i64 1, .int .i64 3, .int .i64 9, .int .i64 1], .int .i64 2] W fun e w' => e = .returned (.int .i64 4) ∧ AL w w' :=
  (at_any 2 1 3 9 1 2 W h.1 (by decide)).mono fun _ _ ⟨he, hb⟩ => ⟨by rw [he, show atZ 2 1 3 9 1 2 = 4 from by decide], h.step hb⟩
theorem al_at4 {w W : World} (h : AL w W) : Calls Tryd.prog 12 #[.agg #[.int .i64 2, .int .i64 1, .int .i64 3, .int .i64 9, .int .i64 1], .int .i64 4] W fun e w' => e = .returned (.int .i64 12) ∧ AL w w' :=
  (at_any 2 1 3 9 1 4 W h.1 (by decide)).mono fun _ _ ⟨he, hb⟩ => ⟨by rw [he, show atZ 2 1 3 9 1 4 = 12 from by decide], h.step hb⟩
theorem al_words {w W : World} (h : AL w W) : Calls Tryd.prog 16 #[.agg #[.int .i64 2, .int .i64 1, .int .i64 3, .int .i64 9, .int .i64 1]] W fun e w' => e = .returned (.int .i64 22) ∧ AL w w' :=
  (words_any 2 1 3 9 1 W h.1).mono fun _ _ ⟨he, hb⟩ => ⟨by rw [he, show wordsZ 2 1 3 9 1 = 22 from by decide], h.step hb⟩
theorem al_base2 {w W : World} (h : AL w W) : Calls Tryd.prog 20 #[.slice (some ⟨w.heap.size + 1, 0, none⟩) 2 2, .int .i64 2] W fun e w' => e = .returned (.int .i64 22) ∧ AL w w' :=
  (base_any _ 2 aL 2 W h.1 h.2.2.1 (by decide) (by decide)).mono fun _ _ ⟨he, hb⟩ => ⟨by rw [he, show baseZ aL 2 = 22 from by decide], h.step hb⟩
theorem al_base3 {w W : World} (h : AL w W) : Calls Tryd.prog 20 #[.slice (some ⟨w.heap.size + 1, 0, none⟩) 2 2, .int .i64 3] W fun e w' => e = .returned (.int .i64 (-1)) ∧ AL w w' :=
  (base_any _ 2 aL 3 W h.1 h.2.2.1 (by decide) (by decide)).mono fun _ _ ⟨he, hb⟩ => ⟨by rw [he, show baseZ aL 3 = -1 from by decide], h.step hb⟩

set_option maxRecDepth 100000 in
set_option maxHeartbeats 400000 in
theorem alive_any (w : World) (hl : Lay w) :
    Calls Tryd.prog 5 #[] w fun e w' => e = .returned (.bool true) ∧ Below w.heap.size w w' := by
  have hAL := AL.start w hl
  go_enter Tryd.func5, Tryd.ntmps5
  go_wp2_with fail
  generalize ((w.alloc (.cells #[.int .i64 2, .int .i64 1, .int .i64 3, .int .i64 9, .int .i64 1] 24)).alloc (.cells #[.int .i64 2, .int .i64 1, .int .i64 3, .int .i64 9, .int .i64 1, .int .i64 0, .int .i64 0, .int .i64 64, .int .i64 0, .int .i64 4294967294] 24)) = W at *
  obtain ⟨c0, c1, c2, c3, c4⟩ := hAL.cells
  refine (al_slots hAL).mono ?_
  rintro e w1 ⟨rfl, hAL⟩
  clear c0 c1 c2 c3 c4
  obtain ⟨c0, c1, c2, c3, c4⟩ := hAL.cells
  go_wp2_with (first
    | (go_at_call 6; ((with_reducible refine (al_slots hAL).mono ?_); rintro e w1 ⟨rfl, hAL⟩; clear c0 c1 c2 c3 c4; obtain ⟨c0, c1, c2, c3, c4⟩ := hAL.cells))
    | (go_at_call 8; ((with_reducible refine (al_size0 hAL).mono ?_); rintro e w1 ⟨rfl, hAL⟩; clear c0 c1 c2 c3 c4; obtain ⟨c0, c1, c2, c3, c4⟩ := hAL.cells))
    | (go_at_call 8; ((with_reducible refine (al_size3 hAL).mono ?_); rintro e w1 ⟨rfl, hAL⟩; clear c0 c1 c2 c3 c4; obtain ⟨c0, c1, c2, c3, c4⟩ := hAL.cells))
    | (go_at_call 18; ((with_reducible refine (al_right hAL).mono ?_); rintro e w1 ⟨rfl, hAL⟩; clear c0 c1 c2 c3 c4; obtain ⟨c0, c1, c2, c3, c4⟩ := hAL.cells))
    | (go_at_call 18; ((with_reducible refine (al_right0 hAL).mono ?_); rintro e w1 ⟨rfl, hAL⟩; clear c0 c1 c2 c3 c4; obtain ⟨c0, c1, c2, c3, c4⟩ := hAL.cells))
    | (go_at_call 14; ((with_reducible refine (al_count hAL).mono ?_); rintro e w1 ⟨rfl, hAL⟩; clear c0 c1 c2 c3 c4; obtain ⟨c0, c1, c2, c3, c4⟩ := hAL.cells))
    | (go_at_call 10; ((with_reducible refine (al_class2 hAL).mono ?_); rintro e w1 ⟨rfl, hAL⟩; clear c0 c1 c2 c3 c4; obtain ⟨c0, c1, c2, c3, c4⟩ := hAL.cells))
    | (go_at_call 10; ((with_reducible refine (al_class6 hAL).mono ?_); rintro e w1 ⟨rfl, hAL⟩; clear c0 c1 c2 c3 c4; obtain ⟨c0, c1, c2, c3, c4⟩ := hAL.cells))
    | (go_at_call 12; ((with_reducible refine (al_at2 hAL).mono ?_); rintro e w1 ⟨rfl, hAL⟩; clear c0 c1 c2 c3 c4; obtain ⟨c0, c1, c2, c3, c4⟩ := hAL.cells))
    | (go_at_call 12; ((with_reducible refine (al_at4 hAL).mono ?_); rintro e w1 ⟨rfl, hAL⟩; clear c0 c1 c2 c3 c4; obtain ⟨c0, c1, c2, c3, c4⟩ := hAL.cells))
    | (go_at_call 16; ((with_reducible refine (al_words hAL).mono ?_); rintro e w1 ⟨rfl, hAL⟩; clear c0 c1 c2 c3 c4; obtain ⟨c0, c1, c2, c3, c4⟩ := hAL.cells))
    | (go_at_call 20; ((with_reducible refine (al_base2 hAL).mono ?_); rintro e w1 ⟨rfl, hAL⟩; clear c0 c1 c2 c3 c4; obtain ⟨c0, c1, c2, c3, c4⟩ := hAL.cells))
    | (go_at_call 20; ((with_reducible refine (al_base3 hAL).mono ?_); rintro e w1 ⟨rfl, hAL⟩; clear c0 c1 c2 c3 c4; obtain ⟨c0, c1, c2, c3, c4⟩ := hAL.cells)))
  go_ret
  exact ⟨rfl, hAL.2.2.2.2⟩
end Go.Proofs.YtalfkhnadflhnaaDoor
