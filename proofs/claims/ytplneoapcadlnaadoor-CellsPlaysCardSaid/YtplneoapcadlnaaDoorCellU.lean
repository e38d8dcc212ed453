/- CellsPlays: what is refused, or not asked. -/
import Derived.Test.YtplneoapcadlnaaDoorCellT
namespace Go.Proofs.YtplneoapcadlnaaDoor
open Go.RowKit
attribute [local go_sem ↓] Go.wp_at_zero Go.wp_at_succ

section
variable (x : Sh) (size base : Int) (A : Option Addr) (cap m : Nat) (w : World)
/-- The world behind the two boxes. -/
def W7 (x : Sh) (size base : Int) (w : World) : World := (w.alloc (.cells #[.int .i64 x.a, .int .i64 x.b, .int .i64 x.c, .int .i64 x.q, .int .i64 x.s] 24)).alloc (.cells #[.int .i64 size, .int .i64 base] 25)
theorem w7_below : Below w.heap.size w (W7 x size base w) := ((Below.refl _ _).alloc (Nat.le_refl _) _).alloc (by simp) _
theorem w7_share : Blk (W7 x size base w) w.heap.size 24 x.vals := (Blk.new w _ _).alloc _
set_option maxRecDepth 100000 in
set_option maxHeartbeats 800000 in
theorem plays7_big (hl : Lay w) (h : 100 < m ∨ m ≤ 100 ∧ (size < 0 ∨ 0 ≤ size ∧ 2000 < size)) (hm : m ≤ 9223372036854775807) :
    Calls Tryd.prog 3 #[shV x, .agg #[.int .i64 size, .int .i64 base], .slice A m cap] w fun e w' => e = .returned (.bool true) ∧ Below w.heap.size w w' := by
  have HL := Lib.hid (hl.below (w7_below x size base w))
  have HB := Lib.hid (w7_below x size base w)
  have HA := Lib.hid (alive7_any _ HL.out)
  unfold W7 at HA HB
  clear hl HL
  unfold shV
  rcases h with h | ⟨h, h2 | ⟨h2, h3⟩⟩
  · have h' : (100 : Int) < m := by omega
    have hd : decide (100 < m) = true := by simpa using h
    go_enter Tryd.func3, Tryd.ntmps3
    go_wp2_with (go_at_call 5; refine HA.out.mono ?_; rintro e v5 ⟨rfl, b5⟩)
    go_ret
    exact ⟨rfl, below_more HB.out b5⟩
  · have h' : ¬ (100 : Int) < m := by omega
    have hd : decide (100 < m) = false := by simp; omega
    go_enter Tryd.func3, Tryd.ntmps3
    go_wp2_with (go_at_call 5; refine HA.out.mono ?_; rintro e v5 ⟨rfl, b5⟩)
    go_ret
    exact ⟨rfl, below_more HB.out b5⟩
  · have h' : ¬ (100 : Int) < m := by omega
    have hd : decide (100 < m) = false := by simp; omega
    have h4 : ¬ size < 0 := by omega
    go_enter Tryd.func3, Tryd.ntmps3
    go_wp2_with (go_at_call 5; refine HA.out.mono ?_; rintro e v5 ⟨rfl, b5⟩)
    go_ret
    exact ⟨rfl, below_more HB.out b5⟩
theorem newA_call (n : Nat) (w : World) (h : n ≤ 65536) : Calls Tryd.prog 6 #[.int .i64 n] w fun e w' => ∃ ab ac, e = .returned (.tuple #[.pointer (some ⟨ab, 0, none⟩), .int .i64 0]) ∧ ArAt w' 77 ab ac (List.replicate n 0) 0 ∧ Below w.heap.size w w' ∧ w.heap.size ≤ ab ∧ w.heap.size ≤ ac :=
  (new_any n w h).mono fun _ _ ⟨he, ha, hb⟩ => ⟨_, _, he, ha, hb, by omega, Nat.le_refl _⟩
theorem share_cells {x : Sh} {w1 : World} {b : Nat} (h : Blk w1 b 24 x.vals) : w1.cell? ⟨b, 0, none⟩ = some (.int .i64 x.a) ∧ w1.cell? ⟨b, 1, none⟩ = some (.int .i64 x.b) ∧ w1.cell? ⟨b, 2, none⟩ = some (.int .i64 x.c) ∧ w1.cell? ⟨b, 3, none⟩ = some (.int .i64 x.q) ∧ w1.cell? ⟨b, 4, none⟩ = some (.int .i64 x.s) := ⟨h.cell rfl, h.cell rfl, h.cell rfl, h.cell rfl, h.cell rfl⟩
theorem share_call {x : Sh} {b : Bool} (h : x.may = b) (W : World) : Calls Tryd.prog 8 #[.agg #[.int .i64 x.a, .int .i64 x.b, .int .i64 x.c, .int .i64 x.q, .int .i64 x.s]] W fun e w' => e = .returned (.bool b) ∧ Below W.heap.size W w' := by
  subst h
  exact share_any _ _ _ _ _ _
theorem words_call {x : Sh} {q : Nat} (h : wordsZ x.a x.b x.c x.q x.s = (q : Int)) (W : World) : Calls Tryd.prog 9 #[.agg #[.int .i64 x.a, .int .i64 x.b, .int .i64 x.c, .int .i64 x.q, .int .i64 x.s]] W fun e w' => e = .returned (.int .i64 q) ∧ Below W.heap.size W w' := by
  rw [← h, ← rwords_eq]
  exact rwords_any _ _ _ _ _ _
set_option maxRecDepth 100000 in
set_option maxHeartbeats 800000 in
theorem plays7_not (n : Nat) (hl : Lay w) (hn : n ≤ 2000) (h : m ≤ 100) (hm : x.may = false) :
    Calls Tryd.prog 3 #[shV x, .agg #[.int .i64 n, .int .i64 base], .slice A m cap] w fun e w' => e = .returned (.bool true) ∧ Below w.heap.size w w' := by
  have HB := Lib.hid (w7_below x n base w)
  have HK := Lib.hid (w7_share x n base w)
  have HL := Lib.hid (hl.below (w7_below x n base w))
  have HN := Lib.hid (newA_call n (W7 x n base w) (by omega))
  unfold W7 at HB HK HL HN
  have hd : decide (100 < m) = false := by simp; omega
  have h' : ¬ (100 : Int) < m := by omega
  clear hl
  unfold shV
  go_enter Tryd.func3, Tryd.ntmps3
  go_wp2_with fail
  refine HN.out.mono ?_
  rintro e w1 ⟨ab, ac, rfl, _, hb1, _, _⟩
  have HB1 := Lib.hid (below_more HB.out hb1)
  have HL1 := Lib.hid (HL.out.below hb1)
  have hk1 := HK.out.below hb1 HK.out.lt
  obtain ⟨s0, s1, s2, s3, s4⟩ := share_cells hk1
  have HK1 := Lib.hid hk1
  clear hk1 hb1 HN HB HL HK
  go_wp2_with fail
  refine (newC_no x _ base w1 hm).mono ?_
  rintro e w2 ⟨rfl, hb2⟩
  have HB2 := Lib.hid (below_more HB1.out hb2)
  have HL2 := Lib.hid (HL1.out.below hb2)
  have hk2 := HK1.out.below hb2 HK1.out.lt
  clear s0 s1 s2 s3 s4
  obtain ⟨s0, s1, s2, s3, s4⟩ := share_cells hk2
  clear hk2 hb2 HB1 HL1 HK1
  go_wp2_with fail
  refine (share_call hm w2).mono ?_
  rintro e w3 ⟨rfl, hb3⟩
  have HB3 := Lib.hid (below_more HB2.out hb3)
  have HL3 := Lib.hid (HL2.out.below hb3)
  clear s0 s1 s2 s3 s4 hb3 HB2 HL2
  go_wp2_with (go_at_call 5; refine (alive7_any _ HL3.out).mono ?_; rintro e v5 ⟨rfl, b5⟩)
  go_ret
  exact ⟨rfl, below_more HB3.out b5⟩
set_option maxRecDepth 100000 in
set_option maxHeartbeats 800000 in
theorem plays7_out (n : Nat) (hl : Lay w) (hn : n ≤ 2000) (h : m ≤ 100) (hm : x.may = true) (hbo : i64ok base) (ho : base < 0 ∨ 0 ≤ base ∧ ((n : Int) < base ∨ base ≤ n ∧ (n : Int) - base < x.wd)) :
    Calls Tryd.prog 3 #[shV x, .agg #[.int .i64 n, .int .i64 base], .slice A m cap] w fun e w' => e = .returned (.bool true) ∧ Below w.heap.size w w' := by
  have HB := Lib.hid (w7_below x n base w)
  have HK := Lib.hid (w7_share x n base w)
  have HL := Lib.hid (hl.below (w7_below x n base w))
  have HN := Lib.hid (newA_call n (W7 x n base w) (by omega))
  unfold W7 at HB HK HL HN
  have hd : decide (100 < m) = false := by simp; omega
  have h' : ¬ (100 : Int) < m := by omega
  have HO := Lib.hid (show base < 0 ∨ ((List.replicate n (0 : Int)).length : Int) - base < x.wd by rw [List.length_replicate]; omega)
  obtain ⟨q, hq⟩ : ∃ q, x.wd = q := ⟨_, rfl⟩
  rw [hq] at ho
  have HWD := Lib.hid (hq ▸ (Sh.wd_is hm).1)
  have HBO := Lib.hid hbo
  have HHO := Lib.hid ho
  clear hl hbo hq ho
  unfold shV
  go_enter Tryd.func3, Tryd.ntmps3
  go_wp2_with fail
  refine HN.out.mono ?_
  rintro e w1 ⟨ab, ac, rfl, ha1, hb1, _, _⟩
  have HB1 := Lib.hid (below_more HB.out hb1)
  have HL1 := Lib.hid (HL.out.below hb1)
  have hk1 := HK.out.below hb1 HK.out.lt
  obtain ⟨s0, s1, s2, s3, s4⟩ := share_cells hk1
  have HK1 := Lib.hid hk1
  have HA1 := Lib.hid ha1
  clear hk1 hb1 HN HB HL HK ha1
  go_wp2_with fail
  refine (newC_out x base w1 HL1.out HA1.out hm HBO.out HO.out).mono ?_
  rintro e w2 ⟨rfl, hb2⟩
  have HB2 := Lib.hid (below_more HB1.out hb2)
  have HL2 := Lib.hid (HL1.out.below hb2)
  have hk2 := HK1.out.below hb2 HK1.out.lt
  have HK2 := Lib.hid hk2
  clear s0 s1 s2 s3 s4
  obtain ⟨s0, s1, s2, s3, s4⟩ := share_cells hk2
  clear hk2 hb2 HB1 HL1 HK1 HA1 HO HBO
  go_wp2_with fail
  refine (share_call hm w2).mono ?_
  rintro e w3 ⟨rfl, hb3⟩
  have HB3 := Lib.hid (below_more HB2.out hb3)
  have HL3 := Lib.hid (HL2.out.below hb3)
  have hk3 := HK2.out.below hb3 HK2.out.lt
  clear s0 s1 s2 s3 s4
  obtain ⟨s0, s1, s2, s3, s4⟩ := share_cells hk3
  clear hb3 HB2 HL2 HK2 hk3
  rcases HHO.out with ho | ⟨h0, ho | ⟨h1, ho⟩⟩
  · go_wp2_with (go_at_call 5; refine (alive7_any _ HL3.out).mono ?_; rintro e v5 ⟨rfl, b5⟩)
    go_ret
    exact ⟨rfl, below_more HB3.out b5⟩
  · have h0' : ¬ base < 0 := by omega
    go_wp2_with (go_at_call 5; refine (alive7_any _ HL3.out).mono ?_; rintro e v5 ⟨rfl, b5⟩)
    go_ret
    exact ⟨rfl, below_more HB3.out b5⟩
  · have h0' : ¬ base < 0 := by omega
    have h1' : ¬ (n : Int) < base := by omega
    have hw : wrap64 ((n : Int) - base) = n - base := wrap64_of (by unfold i64ok; omega)
    clear h0 h1
    go_wp2_with (first
      | (go_at_call 9; refine (words_call HWD.out _).mono ?_; rintro e w4 ⟨rfl, hb4⟩; have HB4 := Lib.hid (below_more HB3.out hb4); have HL4 := Lib.hid (HL3.out.below hb4))
      | (go_at_call 5; refine (alive7_any _ HL4.out).mono ?_; rintro e v5 ⟨rfl, b5⟩))
    go_ret
    exact ⟨rfl, below_more HB4.out b5⟩
end
end Go.Proofs.YtplneoapcadlnaaDoor
