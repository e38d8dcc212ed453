/- alive (socagelaw07). -/
import Derived.Test.YtplneoapcadlnaaDoorCellS
namespace Go.Proofs.YtplneoapcadlnaaDoor
open Go.RowKit
attribute [local go_sem ↓] Go.wp_at_zero Go.wp_at_succ

def aX7 : Sh := ⟨1, 1, 1, 0, 9⟩
def aC7 (g : Int) (t : Bool) : List St := [⟨0, 9, false⟩, ⟨1, g, t⟩, ⟨2, 9, false⟩]
def aT7 (c : Int) : List Int := [0, c, 0]
def aV7 (y : Vl) : List (List Vl) := [[⟨0, 0⟩], [⟨0, 0⟩, y], [⟨0, 0⟩, ⟨0, 0⟩, ⟨0, 0⟩, ⟨0, 0⟩]]
theorem aX7_n : aX7.n = 3 := rfl
theorem aX7_may : aX7.may = true := by decide +kernel
theorem aX7_cz : aX7.cz 0 = 0 ∧ aX7.cz 1 = 1 ∧ aX7.cz 2 = 2 := by decide +kernel
theorem aX7_at : aX7.at_ 1 = 2 := by decide +kernel
theorem aX7_wd : aX7.wd = 10 := by decide +kernel
theorem aX7_sl : aX7.sl 0 = 1 ∧ aX7.sl 1 = 2 ∧ aX7.sl 2 = 4 := by decide +kernel
theorem c0_aX7 : c0 aX7 = aC7 9 false := by
  obtain ⟨h0, h1, h2⟩ := aX7_cz
  unfold c0
  rw [aX7_n]
  simp [csTo, List.range_succ, aC7, h0, h1, h2]
  rfl
theorem p0_aX7 : p0 aX7 1 = [1] := by
  have e : p0 aX7 1 = wholeL (aC7 9 false) 1 3 := by unfold p0; rw [c0_aX7, aX7_n]; rfl
  rw [e]
  decide +kernel
theorem ct0_aX7 : ct0 aX7 = aT7 0 := by unfold ct0; rw [aX7_n]; rfl
theorem vs0_aX7 : vs0 aX7 = aV7 ⟨0, 0⟩ := by
  obtain ⟨h0, h1, h2⟩ := aX7_sl
  unfold vs0
  rw [aX7_n]
  simp [List.range_succ, h0, h1, h2, nils, aV7, Vl.nil, List.replicate]
def AS7 (w0 : World) (K : List Kb) (kb ab : Nat) (g : Int) (t : Bool) (q : List Int) (c : Int) (y : Vl) (w : World) : Prop :=
  ∃ p, p 1 = q ∧ PS w0 K (CE kb ab aX7 3 (List.replicate 20 0) (aC7 g t) p (aT7 c) (aV7 y)) NE w
section
variable {w0 w : World} {K : List Kb} {kb ab : Nat} {g : Int} {t : Bool} {q : List Int} {c : Int} {y : Vl}
theorem AS7.more {w' : World} (h : AS7 w0 K kb ab g t q c y w) (hb : Below w.heap.size w w') : AS7 w0 K kb ab g t q c y w' := by
  obtain ⟨p, hp, h⟩ := h
  exact ⟨p, hp, h.more (frm_ce ..) frm_ne hb⟩
theorem AS7.add (h : AS7 w0 K kb ab g t q c y w) (a : Array Value) (T : TypeId) : AS7 w0 (⟨w.heap.size, T, a.toList⟩ :: K) kb ab g t q c y (w.alloc (.cells a T)) := by
  obtain ⟨p, hp, h⟩ := h
  exact ⟨p, hp, h.add (frm_ce ..) frm_ne a T⟩
theorem AS7.lay (h : AS7 w0 K kb ab g t q c y w) : Lay w := by obtain ⟨p, hp, h⟩ := h; exact h.lay
theorem AS7.below (h : AS7 w0 K kb ab g t q c y w) : Below w0.heap.size w0 w := by obtain ⟨p, hp, h⟩ := h; exact h.below
theorem AS7.cell (h : AS7 w0 K kb ab g t q c y w) {k : Kb} (hk : k ∈ K) {i : Nat} {v : Value} (hv : k.cs[i]? = some v) : w.cell? ⟨k.b, i, none⟩ = some v := by obtain ⟨p, hp, h⟩ := h; exact h.cell hk hv
theorem a7_new (w : World) (hl : Lay w) : Calls Tryd.prog 6 #[.int .i64 20] w fun e w' => e = .returned (.tuple #[.pointer (some ⟨w.heap.size + 1, 0, none⟩), .int .i64 0]) ∧ ArAt w' 77 (w.heap.size + 1) w.heap.size (List.replicate 20 0) 0 ∧ Below w.heap.size w w' ∧ Lay w' :=
  (new_any 20 w (by omega)).mono fun _ _ ⟨he, ha, hb⟩ => ⟨he, ha, hb, hl.below hb⟩
theorem a7_cells {w1 : World} (hl : Lay w) (h1 : ArAt w1 77 (w.heap.size + 1) w.heap.size (List.replicate 20 0) 0 ∧ Below w.heap.size w w1 ∧ Lay w1) :
    Calls Tryd.prog 7 #[.pointer (some ⟨w.heap.size + 1, 0, none⟩), .int .i64 3, .agg #[.int .i64 1, .int .i64 1, .int .i64 1, .int .i64 0, .int .i64 9]] w1 fun e w' => ∃ kb, e = .returned (.tuple #[.pointer (some ⟨kb, 0, none⟩), .int .i64 0]) ∧ AS7 w [] kb (w.heap.size + 1) 9 false [1] 0 ⟨0, 0⟩ w' := by
  have hpos : 0 < w.heap.size := World.block_lt_of_cell? w ⟨0, 0, none⟩ hl.1
  refine (newC_any aX7 3 w1 h1.2.2 h1.1 aX7_may (by rw [aX7_wd]; simp) (by omega)).mono fun e w' ⟨kb, he, fb, cb, v, t', L', hC, hR, hO, hlo⟩ => ⟨kb, he, p0 aX7, p0_aX7, ?_⟩
  have hs := h1.2.1.size
  rw [c0_aX7] at hC hR
  rw [ct0_aX7, vs0_aX7] at hR
  refine ⟨_, [], ⟨⟨fb, cb, v, _, L', t', hC, hR, by have := (sim_start aX7 aX7_may).inv; have e : Inv aX7 (c0 aX7) (p0 aX7) := this; rwa [c0_aX7] at e, rfl⟩, rfl, fun g hg => ?_, by simp, by simp, by simp, hpos, h1.2.1.trans (hO.below hs (by simp))⟩⟩
  rcases hlo g hg with e | e | e <;> omega
theorem a7_alloc (hq : q = [1]) (h : AS7 w0 K kb ab g false q c y w) : Calls Tryd.prog 23 #[.pointer (some ⟨kb, 0, none⟩), .int .i64 1] w fun e w' => e = .returned (.tuple #[.int .i64 1, .int .i64 0]) ∧ AS7 w0 K kb ab g true [] c y w' := by
  subst hq
  obtain ⟨p, hp, h⟩ := h
  have k1 : tkV p 1 = 1 := by unfold tkV; rw [show ((1 : Int)).toNat = 1 from rfl, hp]; rfl
  have k2 : tkE p 1 = 0 := by unfold tkE; rw [show ((1 : Int)).toNat = 1 from rfl, hp]; rfl
  have k3 : tkC (aC7 g false) p 1 = aC7 g true := by unfold tkC; rw [show ((1 : Int)).toNat = 1 from rfl, hp]; rfl
  have k4 : tkP p 1 1 = [] := by unfold tkP; rw [show ((1 : Int)).toNat = 1 from rfl, hp]; rfl
  refine (pc_alloc frm_ne h 1).mono fun e w' ⟨he, h'⟩ => ⟨?_, tkP p 1, k4, ?_⟩
  · rw [he, k1, k2]
  · rw [k3] at h'; exact h'
theorem a7_set (h : AS7 w0 K kb ab 9 true q 0 ⟨0, 0⟩ w) : Calls Tryd.prog 26 #[.pointer (some ⟨kb, 0, none⟩), .int .i64 1, .int .i64 1, .agg #[.int .i64 1, .int .u64 7]] w fun e w' => e = .returned (.int .i64 0) ∧ AS7 w0 K kb ab 9 true q 0 ⟨1, 7⟩ w' := by
  obtain ⟨p, hp, h⟩ := h
  have k1 : stE aX7 (aC7 9 true) 1 1 ⟨1, 7⟩ = 0 := by decide +kernel
  have k2 : stV aX7 (aC7 9 true) (aV7 ⟨0, 0⟩) 1 1 ⟨1, 7⟩ = aV7 ⟨1, 7⟩ := by unfold stV; rw [if_pos k1]; rfl
  refine (pc_set frm_ne h 1 1 ⟨1, 7⟩ (by decide) (by decide)).mono fun e w' ⟨he, h'⟩ => ⟨?_, p, hp, ?_⟩
  · rw [he, k1]
  · rw [k2] at h'; exact h'
theorem a7_cnt (h : AS7 w0 K kb ab 9 true q 0 y w) : Calls Tryd.prog 27 #[.pointer (some ⟨kb, 0, none⟩), .int .i64 1, .int .i64 2] w fun e w' => e = .returned (.int .i64 0) ∧ AS7 w0 K kb ab 9 true q 2 y w' := by
  obtain ⟨p, hp, h⟩ := h
  have k1 : scE (aC7 9 true) 1 2 = 0 := by decide +kernel
  have k2 : scC (aC7 9 true) (aT7 0) 1 2 = aT7 2 := by unfold scC; rw [if_pos k1]; rfl
  refine (pc_cnt frm_ne h 1 2 (by decide)).mono fun e w' ⟨he, h'⟩ => ⟨?_, p, hp, ?_⟩
  · rw [he, k1]
  · rw [k2] at h'; exact h'
theorem a7_readH {v : Int} (hv : Hd.encZ g c t = v) (h : AS7 w0 K kb ab g t q c y w) : Calls Tryd.prog 30 #[.pointer (some ⟨ab, 0, none⟩), .int .i64 5] w fun e w' => e = .returned (.tuple #[.int .u64 v, .int .i64 0]) ∧ AS7 w0 K kb ab g t q c y w' := by
  subst hv
  obtain ⟨p, hp, h⟩ := h
  exact (pc_readH (i := 1) (z := ⟨1, g, t⟩) (c := c) frm_ne h rfl rfl (by rw [aX7_at]; rfl)).mono fun e w' ⟨he, h'⟩ => ⟨he, p, hp, h'⟩
theorem a7_readS {v : Int} (hv : y.w = v) (h : AS7 w0 K kb ab g t q c y w) : Calls Tryd.prog 30 #[.pointer (some ⟨ab, 0, none⟩), .int .i64 7] w fun e w' => e = .returned (.tuple #[.int .u64 v, .int .i64 0]) ∧ AS7 w0 K kb ab g t q c y w' := by
  subst hv
  obtain ⟨p, hp, h⟩ := h
  exact (pc_readS (i := 1) (k := 1) (l := [⟨0, 0⟩, y]) (y := y) frm_ne h rfl rfl (by rw [aX7_at]; rfl)).mono fun e w' ⟨he, h'⟩ => ⟨he, p, hp, h'⟩
theorem a7_head (h : AS7 w0 K kb ab 9 true q 2 y w) : Calls Tryd.prog 12 #[.pointer (some ⟨kb, 0, none⟩), .int .i64 1] w fun e w' => e = .returned (.tuple #[.agg #[.int .i64 9, .int .i64 2, .bool true], .int .i64 0]) ∧ AS7 w0 K kb ab 9 true q 2 y w' := by
  obtain ⟨p, hp, h⟩ := h
  exact (pc_headA frm_ne h 1 (by decide) (by decide +kernel) (by decide +kernel) (by decide +kernel) (by decide +kernel)).mono fun e w' ⟨he, h'⟩ => ⟨he, p, hp, h'⟩
theorem a7_free (h : AS7 w0 K kb ab 9 true [] 2 ⟨1, 7⟩ w) : Calls Tryd.prog 24 #[.pointer (some ⟨kb, 0, none⟩), .int .i64 1] w fun e w' => e = .returned (.tuple #[.bool false, .int .i64 0]) ∧ AS7 w0 K kb ab 10 false [1] 0 ⟨0, 0⟩ w' := by
  obtain ⟨p, hp, h⟩ := h
  have k0 : gvOk (aC7 9 true) 1 = true := by decide +kernel
  have k1 : gvLast (aC7 9 true) 1 = false := by decide +kernel
  have k2 : gvE (aC7 9 true) 1 = 0 := by decide +kernel
  have k3 : gvC (aC7 9 true) 1 = aC7 10 false := by unfold gvC; rw [if_pos k0]; rfl
  have k4 : frC (aC7 9 true) (aT7 2) 1 = aT7 0 := by unfold frC; rw [if_pos k0]; rfl
  have k5 : frV aX7 (aC7 9 true) (aV7 ⟨1, 7⟩) 1 = aV7 ⟨0, 0⟩ := by unfold frV; rw [if_pos k0, show ((1 : Int)).toNat = 1 from rfl, aX7_sl.2.1]; rfl
  have k6 : gvP (aC7 9 true) p 1 1 = [1] := by
    unfold gvP
    rw [if_pos (by rw [k0, k1]; rfl), show (stAt (aC7 9 true) 1).c.toNat = 1 from rfl, upd_same, hp]
    rfl
  refine (pc_free frm_ne h 1).mono fun e w' ⟨he, h'⟩ => ⟨?_, gvP (aC7 9 true) p 1, k6, ?_⟩
  · rw [he, k1, k2]
  · rw [k3, k4, k5] at h'; exact h'
theorem a7_get (h : AS7 w0 K kb ab 10 true q 0 ⟨0, 0⟩ w) : Calls Tryd.prog 25 #[.pointer (some ⟨kb, 0, none⟩), .int .i64 1, .int .i64 1] w fun e w' => e = .returned (.tuple #[.agg #[.int .i64 0, .int .u64 0], .int .i64 0]) ∧ AS7 w0 K kb ab 10 true q 0 ⟨0, 0⟩ w' := by
  obtain ⟨p, hp, h⟩ := h
  have k1 : plE aX7 (aC7 10 true) 1 1 = 0 := by decide +kernel
  exact (pc_getA (y := ⟨0, 0⟩) frm_ne h 1 1 (by decide) (gt_yes (l := [⟨0, 0⟩, ⟨0, 0⟩]) k1 rfl rfl) k1).mono fun e w' ⟨he, h'⟩ => ⟨he, p, hp, h'⟩
theorem a7_out (h : AS7 w0 K kb ab g t q c y w) : Calls Tryd.prog 7 #[.pointer (some ⟨ab, 0, none⟩), .int .i64 11, .agg #[.int .i64 1, .int .i64 1, .int .i64 1, .int .i64 0, .int .i64 9]] w fun e w' => e = .returned (.tuple #[.pointer none, .int .i64 1]) ∧ AS7 w0 K kb ab g t q c y w' := by
  have h' := h
  obtain ⟨p, hp, F, G, h⟩ := h
  obtain ⟨fb, cb, v, ac, L, t', hC, hR, hI, rfl⟩ := h.c
  have hl : L.length = 20 := by rw [hR.fit.2.1]; simp
  exact (newC_out aX7 11 w hC.lay hC.ar aX7_may (by unfold i64ok; omega) (Or.inr (by rw [hl, aX7_wd]; decide))).mono fun e w' ⟨he, hb⟩ => ⟨he, h'.more hb⟩
theorem a7_room (h : AS7 w0 K kb ab 10 true [] c y w) : Calls Tryd.prog 17 #[.pointer (some ⟨kb, 0, none⟩), .int .i64 1] w fun e w' => e = .returned (.tuple #[.int .i64 0, .int .i64 0]) ∧ AS7 w0 K kb ab 10 true [] c y w' := by
  obtain ⟨p, hp, h⟩ := h
  have k1 : freeZ p 1 = 0 := by unfold freeZ; rw [show ((1 : Int)).toNat = 1 from rfl, hp]; rfl
  have k2 : retZ (aC7 10 true) 1 = 0 := by decide +kernel
  refine (pc_room frm_ne h 1).mono fun e w' ⟨he, h'⟩ => ⟨?_, p, hp, h'⟩
  rw [he, k1, k2]
theorem a7_live (h : AS7 w0 K kb ab 10 true q c y w) : Calls Tryd.prog 15 #[.pointer (some ⟨kb, 0, none⟩)] w fun e w' => ∃ A cap, e = .returned (.slice A 1 cap) ∧ AS7 w0 K kb ab 10 true q c y w' := by
  obtain ⟨p, hp, h⟩ := h
  refine (pc_live frm_ne h).mono fun e w' ⟨u, he, ho, hb, h'⟩ => ?_
  obtain ⟨A, cap, hu, _⟩ := own_form ho
  exact ⟨A, cap, by rw [he, hu]; rfl, p, hp, h'⟩
end
set_option maxRecDepth 100000 in
set_option maxHeartbeats 1600000 in
theorem alive7_any (w : World) (hl : Lay w) : Calls Tryd.prog 5 #[] w fun e w' => e = .returned (.bool true) ∧ Below w.heap.size w w' := by
  go_enter Tryd.func5, Tryd.ntmps5
  go_wp2_with (go_at_call 6; refine (a7_new _ hl).mono ?_; rintro e w1 ⟨rfl, h1⟩)
  refine (a7_cells hl h1).mono ?_
  rintro e w2 ⟨kb, rfl, h2⟩
  clear h1
  go_wp2_with fail
  refine (a7_alloc rfl h2).mono ?_
  rintro e w3 ⟨rfl, h3⟩
  clear h2
  go_wp2_with fail
  refine (a7_set h3).mono ?_
  rintro e w4 ⟨rfl, h4⟩
  clear h3
  go_wp2_with fail
  refine (a7_cnt h4).mono ?_
  rintro e w5 ⟨rfl, h5⟩
  clear h4
  go_wp2_with fail
  refine (a7_readH (v := 40802189314) (by decide +kernel) h5).mono ?_
  rintro e w6 ⟨rfl, h6⟩
  clear h5
  go_wp2_with fail
  refine (a7_readS (v := 15) (by decide +kernel) h6).mono ?_
  rintro e w7 ⟨rfl, h7⟩
  clear h6
  go_wp2_with fail
  refine (a7_head h7).mono ?_
  rintro e w8 ⟨rfl, h8⟩
  have h8a := h8.add #[.int .i64 9, .int .i64 2, .bool true] 47
  clear h7 h8
  go_wp2_with fail
  refine (a7_free h8a).mono ?_
  rintro e w9 ⟨rfl, h9⟩
  clear h8a
  go_wp2_with fail
  refine (a7_readH (v := 42949672960) (by decide +kernel) h9).mono ?_
  rintro e w10 ⟨rfl, h10⟩
  clear h9
  go_wp2_with fail
  refine (a7_readS (v := 0) (by decide +kernel) h10).mono ?_
  rintro e w11 ⟨rfl, h11⟩
  clear h10
  go_wp2_with fail
  refine (a7_alloc rfl h11).mono ?_
  rintro e w12 ⟨rfl, h12⟩
  clear h11
  go_wp2_with fail
  refine (a7_get h12).mono ?_
  rintro e w13 ⟨rfl, h13⟩
  have h13a := h13.add #[.int .i64 0, .int .u64 0] 43
  clear h12 h13
  go_wp2_with fail
  refine (a7_out h13a).mono ?_
  rintro e w14 ⟨rfl, h14⟩
  clear h13a
  go_wp2_with fail
  refine (a7_room h14).mono ?_
  rintro e w15 ⟨rfl, h15⟩
  have x0 := h15.cell (List.mem_cons_of_mem _ (List.mem_cons_self ..)) (i := 0) rfl
  have x1 := h15.cell (List.mem_cons_of_mem _ (List.mem_cons_self ..)) (i := 1) rfl
  have x2 := h15.cell (List.mem_cons_of_mem _ (List.mem_cons_self ..)) (i := 2) rfl
  have y0 := h15.cell (List.mem_cons_self ..) (i := 0) rfl
  have y1 := h15.cell (List.mem_cons_self ..) (i := 1) rfl
  have H15 := Lib.hid h15
  clear h14 h15
  go_wp2_with fail
  refine (a7_live H15.out).mono ?_
  rintro e w16 ⟨A, cap, rfl, h16⟩
  go_wp2_with fail
  go_ret
  exact ⟨rfl, h16.below⟩
end Go.Proofs.YtplneoapcadlnaaDoor
