/- A law's world; alive. -/
import Derived.Test.YtmnjbinmfbjbaaaTriI
import Derived.Deep.RegionHeld3
namespace Go.Proofs.Ytmnjbinmfbjbaaa
namespace Tr
open Go.RowKit Go.Maps Gr

/-! ### alive -/
def gT : Gp := ⟨[⟨2, [5]⟩, ⟨5, []⟩, ⟨7, [9]⟩, ⟨9, [7, 5]⟩], [2]⟩
theorem gT_at {w : World} {b0 b1 b2 b3 b4 : Nat} (h0 : Blk w b0 3 (vals [5])) (h1 : Blk w b1 3 (vals [9])) (h2 : Blk w b2 3 (vals [7, 5])) (h4 : Blk w b4 3 (vals [2]))
    (h3 : Blk w b3 38 [.int .i64 2, .slice (some ⟨b0, 0, none⟩) 1 1, .int .i64 5, .slice none 0 0, .int .i64 7, .slice (some ⟨b1, 0, none⟩) 1 1, .int .i64 9, .slice (some ⟨b2, 0, none⟩) 2 2]) :
    GrAt w (.agg #[.slice (some ⟨b3, 0, none⟩) 4 4, .slice (some ⟨b4, 0, none⟩) 1 1]) gT := by
  refine ⟨some ⟨b3, 0, none⟩, 4, some ⟨b4, 0, none⟩, 1, rfl, by decide, rd_blk (L := [2]) h4 (by simp) (small_ok (by decide)), fun k x hx => ?_⟩
  match k, hx with
  | 0, hx => cases hx; exact ⟨by unfold i64ok; decide, b3, 0, some ⟨b0, 0, none⟩, 1, rfl, h3.lt, h3.cell rfl, h3.cell rfl, rd_blk (L := [5]) h0 (by simp) (small_ok (by decide))⟩
  | 1, hx => cases hx; exact ⟨by unfold i64ok; decide, b3, 0, none, 0, rfl, h3.lt, h3.cell rfl, h3.cell rfl, rd_nil w⟩
  | 2, hx => cases hx; exact ⟨by unfold i64ok; decide, b3, 0, some ⟨b1, 0, none⟩, 1, rfl, h3.lt, h3.cell rfl, h3.cell rfl, rd_blk (L := [9]) h1 (by simp) (small_ok (by decide))⟩
  | 3, hx => cases hx; exact ⟨by unfold i64ok; decide, b3, 0, some ⟨b2, 0, none⟩, 2, rfl, h3.lt, h3.cell rfl, h3.cell rfl, rd_blk (L := [7, 5]) h2 (by simp) (small_ok (by decide))⟩
  | k + 4, hx => cases hx
theorem t_white : whiteA gT [1, 2, 1, 1] [9] = [7, 9] := by decide +kernel
theorem t_whiteE : whiteE gT [1, 2, 1, 1] [9] = 0 := by decide +kernel
theorem t_white2 : whiteA gT [1, 2, 2, 1] [9] = [] := by decide +kernel
theorem t_whiteE2 : whiteE gT [1, 2, 2, 1] [9] = 0 := by decide +kernel
theorem t_whiteE3 : whiteE gT [1, 2, 1, 1] [3] = 1 := by decide +kernel
theorem t_gray : grayA gT [9] = [5, 7, 9] := by decide +kernel
theorem t_rests : restsA gT [1, 2, 1, 1] [9] = [1, 0, 0] := by decide +kernel

structure TA (w0 w : World) (q a b c : Nat) : Prop where
  box : Blk w q 25 [.slice (some ⟨a, 0, none⟩) 4 4, .slice (some ⟨b, 0, none⟩) 1 1]
  gr : GrAt w (.agg #[.slice (some ⟨a, 0, none⟩) 4 4, .slice (some ⟨b, 0, none⟩) 1 1]) gT
  ck : Blk w c 3 (vals [1, 2, 1, 1])
  below : Below w0.heap.size w0 w
section
variable {w0 w w' : World} {q a b c : Nat}
theorem TA.more (h : TA w0 w q a b c) (hb : Below w.heap.size w w') : TA w0 w' q a b c := ⟨h.box.below hb h.box.lt, h.gr.below hb, h.ck.below hb h.ck.lt, below_more h.below hb⟩
theorem TA.cells (h : TA w0 w q a b c) : w.cell? ⟨q, 0, none⟩ = some (.slice (some ⟨a, 0, none⟩) 4 4) ∧ w.cell? ⟨q, 1, none⟩ = some (.slice (some ⟨b, 0, none⟩) 1 1) := ⟨h.box.cell rfl, h.box.cell rfl⟩
theorem TA.rk (h : TA w0 w q a b c) : Rd w (.slice (some ⟨c, 0, none⟩) 4 4) [1, 2, 1, 1] := rd_blk (L := [1, 2, 1, 1]) h.ck (by simp) (small_ok (by decide))
/-- A list that the call has just built, as an argument. -/
theorem rd_built {v : World} {p : Nat} (L : List Int) (hv : w.alloc (.cells (vals L).toArray 3) = v) (hp : w.heap.size = p) (hl : L.length ≤ 1000) (ho : ∀ x ∈ L, -1000 ≤ x ∧ x ≤ 1000) : Rd v (.slice (some ⟨p, 0, none⟩) L.length L.length) L := by
  subst hv hp
  exact Rd.of_own (own_built w L hl) (small_ok ho)
theorem ta_ints (h : TA w0 w q a b c) (L : List Int) (hl : L.length ≤ 1000) {u : Value} (hu : Own w u L) {v : World} {p : Nat} (hv : w.alloc (.cells (vals L).toArray 3) = v) (hp : w.heap.size = p) :
    Calls Try.prog 7 #[u, .slice (some ⟨p, 0, none⟩) L.length L.length] v fun e w' => e = .returned (.bool true) ∧ TA w0 w' q a b c ∧ Below w.heap.size w w' := by
  subst hv hp
  exact (ints_any L hl _ _ _ (hu.below ((Below.refl _ w).alloc (Nat.le_refl _) _)) (own_built w L hl)).mono fun _ _ ⟨he, hb⟩ =>
    have hb' := below_more ((Below.refl _ w).alloc (Nat.le_refl _) _) hb
    ⟨he, h.more hb', hb'⟩
end
theorem ta_start (w : World) : ∃ v1 p0 v2 p1 v3 p2 v4 p3 v5 p4 v6 p5 v7 p6,
    w.alloc (.cells #[.int .i64 5] 3) = v1 ∧ w.heap.size = p0 ∧ v1.alloc (.cells #[.int .i64 9] 3) = v2 ∧ v1.heap.size = p1 ∧ v2.alloc (.cells #[.int .i64 7, .int .i64 5] 3) = v3 ∧ v2.heap.size = p2 ∧
    v3.alloc (.cells #[.int .i64 2, .slice (some ⟨p0, 0, none⟩) 1 1, .int .i64 5, .slice none 0 0, .int .i64 7, .slice (some ⟨p1, 0, none⟩) 1 1, .int .i64 9, .slice (some ⟨p2, 0, none⟩) 2 2] 38) = v4 ∧ v3.heap.size = p3 ∧
    v4.alloc (.cells #[.int .i64 2] 3) = v5 ∧ v4.heap.size = p4 ∧ v5.alloc (.cells #[.slice (some ⟨p3, 0, none⟩) 4 4, .slice (some ⟨p4, 0, none⟩) 1 1] 25) = v6 ∧ v5.heap.size = p5 ∧
    v6.alloc (.cells #[.int .i64 1, .int .i64 2, .int .i64 1, .int .i64 1] 3) = v7 ∧ v6.heap.size = p6 ∧ TA w v7 p5 p3 p4 p6 := by
  obtain ⟨v1, p0, e1, s0, b0, l0⟩ := alc w #[.int .i64 5] 3
  obtain ⟨v2, p1, e2, s1, b1, l1⟩ := alc v1 #[.int .i64 9] 3
  obtain ⟨v3, p2, e3, s2, b2, l2⟩ := alc v2 #[.int .i64 7, .int .i64 5] 3
  obtain ⟨v4, p3, e4, s3, b3, l3⟩ := alc v3 #[.int .i64 2, .slice (some ⟨p0, 0, none⟩) 1 1, .int .i64 5, .slice none 0 0, .int .i64 7, .slice (some ⟨p1, 0, none⟩) 1 1, .int .i64 9, .slice (some ⟨p2, 0, none⟩) 2 2] 38
  obtain ⟨v5, p4, e5, s4, b4, l4⟩ := alc v4 #[.int .i64 2] 3
  obtain ⟨v6, p5, e6, s5, b5, l5⟩ := alc v5 #[.slice (some ⟨p3, 0, none⟩) 4 4, .slice (some ⟨p4, 0, none⟩) 1 1] 25
  obtain ⟨v7, p6, e7, s6, b6, l6⟩ := alc v6 #[.int .i64 1, .int .i64 2, .int .i64 1, .int .i64 1] 3
  have m5 := below_more l5 l6
  have m4 := below_more l4 m5
  have m3 := below_more l3 m4
  have m2 := below_more l2 m3
  have m1 := below_more l1 m2
  exact ⟨v1, p0, v2, p1, v3, p2, v4, p3, v5, p4, v6, p5, v7, p6, e1, s0, e2, s1, e3, s2, e4, s3, e5, s4, e6, s5, e7, s6,
    b5.below l6 b5.lt, gT_at (b0.below m1 b0.lt) (b1.below m2 b1.lt) (b2.below m3 b2.lt) (b4.below m5 b4.lt) (b3.below m4 b3.lt), b6, below_more l0 m1⟩

set_option maxRecDepth 100000 in
set_option maxHeartbeats 1600000 in
theorem alive11_any (w : World) : Calls Try.prog 6 #[] w fun e w' => e = .returned (.bool true) ∧ Below w.heap.size w w' := by
  obtain ⟨v1, p0, v2, p1, v3, p2, v4, p3, v5, p4, v6, p5, v7, p6, e1, s0, e2, s1, e3, s2, e4, s3, e5, s4, e6, s5, e7, s6, a0⟩ := ta_start w
  obtain ⟨v8, n8, e8, s8, _, l8⟩ := alc v7 #[.int .i64 9] 3
  have a1 := a0.more l8
  obtain ⟨c1, c2⟩ := a0.cells
  have cW := pwhite_any gT [1, 2, 1, 1] [9] v8 _ (.slice (some ⟨p6, 0, none⟩) 4 4) (.slice (some ⟨n8, 0, none⟩) 1 1) a1.gr a1.rk (rd_built [9] e8 s8 (by simp) (by decide)) (by decide)
  rw [t_white, t_whiteE] at cW
  clear a0 l8
  go_enter Try.func6, Try.ntmps6
  go_wp2_with fail
  refine cW.mono ?_
  rintro e x1 ⟨u1, rfl, hu1, hb⟩
  have hu1 := (Own.of hu1).1
  have a2 := a1.more hb
  clear cW hb c1 c2 a1 e1 s0 e2 s1 e3 s2 e4 s3 e5 s4 e6 s5 e7 s6 e8 s8
  obtain ⟨y1, n1, f1, t1, _, l1⟩ := alc x1 #[.int .i64 1, .int .i64 2, .int .i64 2, .int .i64 1] 3
  obtain ⟨y2, n2, f2, t2, _, l2⟩ := alc y1 #[.int .i64 9] 3
  obtain ⟨c1, c2⟩ := a2.cells
  have l12 := below_more l1 l2
  have a3 := a2.more l12
  have cW := pwhite_any gT [1, 2, 2, 1] [9] y2 _ (.slice (some ⟨n1, 0, none⟩) 4 4) (.slice (some ⟨n2, 0, none⟩) 1 1) a3.gr ((rd_built [1, 2, 2, 1] f1 t1 (by simp) (by decide)).below l2) (rd_built [9] f2 t2 (by simp) (by decide)) (by decide)
  rw [t_white2, t_whiteE2] at cW
  have hu1 := hu1.below l12
  clear a2 l1 l2 l12
  go_wp2_with fail
  refine cW.mono ?_
  rintro e x2 ⟨u2, rfl, hu2, hb⟩
  have hu1 := hu1.below hb
  obtain ⟨uA, uc, hu2e, _⟩ := (Own.of hu2).1.form
  simp only [List.length_nil] at hu2e
  subst hu2e
  have a4 := a3.more hb
  clear cW hb c1 c2 a3 f1 t1 f2 t2 hu2
  obtain ⟨y3, n3, f3, t3, _, l3⟩ := alc x2 #[.int .i64 3] 3
  obtain ⟨c1, c2⟩ := a4.cells
  have a5 := a4.more l3
  have cW := pwhite_any gT [1, 2, 1, 1] [3] y3 _ (.slice (some ⟨p6, 0, none⟩) 4 4) (.slice (some ⟨n3, 0, none⟩) 1 1) a5.gr a5.rk (rd_built [3] f3 t3 (by simp) (by decide)) (by decide)
  rw [t_whiteE3] at cW
  have hu1 := hu1.below l3
  clear a4 l3
  go_wp2_with fail
  refine cW.mono ?_
  rintro e x3 ⟨u3, rfl, hu3, hb⟩
  have hu1 := hu1.below hb
  have a6 := a5.more hb
  clear cW hb c1 c2 a5 f3 t3 hu3
  obtain ⟨y4, n4, f4, t4, _, l4⟩ := alc x3 #[.int .i64 7, .int .i64 9] 3
  have cI := ta_ints a6 [7, 9] (by simp) hu1 f4 t4
  clear a6 hu1 l4
  go_wp2_with fail
  refine cI.mono ?_
  rintro e x4 ⟨rfl, a7, _⟩
  clear cI f4 t4
  obtain ⟨y5, n5, f5, t5, _, l5⟩ := alc x4 #[.int .i64 9] 3
  obtain ⟨c1, c2⟩ := a7.cells
  have a8 := a7.more l5
  have cG := pgray_any gT [9] y5 _ (.slice (some ⟨n5, 0, none⟩) 1 1) a8.gr (rd_built [9] f5 t5 (by simp) (by decide)) (by decide)
  rw [t_gray] at cG
  clear a7 l5
  go_wp2_with fail
  refine cG.mono ?_
  rintro e x5 ⟨u5, rfl, hu5, hb⟩
  have hu5 := (Own.of hu5).1
  have a9 := a8.more hb
  clear cG hb c1 c2 a8 f5 t5
  obtain ⟨y6, n6, f6, t6, _, l6⟩ := alc x5 #[.int .i64 5, .int .i64 7, .int .i64 9] 3
  have cI := ta_ints a9 [5, 7, 9] (by simp) hu5 f6 t6
  clear a9 hu5 l6
  go_wp2_with fail
  refine cI.mono ?_
  rintro e x6 ⟨rfl, b1, _⟩
  clear cI f6 t6
  obtain ⟨y7, n7, f7, t7, _, l7⟩ := alc x6 #[.int .i64 9] 3
  obtain ⟨c1, c2⟩ := b1.cells
  have b2 := b1.more l7
  have cR := prests_any gT [1, 2, 1, 1] [9] y7 _ (.slice (some ⟨p6, 0, none⟩) 4 4) (.slice (some ⟨n7, 0, none⟩) 1 1) b2.gr b2.rk (rd_built [9] f7 t7 (by simp) (by decide)) (by decide)
  rw [t_rests] at cR
  clear b1 l7
  go_wp2_with fail
  refine cR.mono ?_
  rintro e x7 ⟨u7, rfl, hu7, hb⟩
  have hu7 := (Own.of hu7).1
  have b3 := b2.more hb
  clear cR hb c1 c2 b2 f7 t7
  obtain ⟨y8, n8', f8, t8, _, l8⟩ := alc x7 #[.int .i64 1, .int .i64 0, .int .i64 0] 3
  have cI := ta_ints b3 [1, 0, 0] (by simp) hu7 f8 t8
  clear b3 hu7 l8
  go_wp2_with fail
  refine cI.mono ?_
  rintro e x8 ⟨rfl, b4, _⟩
  clear cI f8 t8
  go_wp2_with fail
  go_ret
  exact ⟨rfl, b4.below⟩
end Tr
end Go.Proofs.Ytmnjbinmfbjbaaa
