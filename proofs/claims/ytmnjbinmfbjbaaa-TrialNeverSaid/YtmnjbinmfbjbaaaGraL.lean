/- Fits; alive. -/
import Derived.Test.YtmnjbinmfbjbaaaGraK
namespace Go.Proofs.Ytmnjbinmfbjbaaa
namespace Gr
open Go.RowKit Go.Maps

def fitsB (G : Gp) : Bool := decide (G.nodes.length ≤ 30) && decide (G.roots.length ≤ 30) && G.nodes.all (fun n => decide (n.out.length ≤ 30))

set_option maxRecDepth 100000 in
set_option maxHeartbeats 800000 in
theorem fits_any (G : Gp) (w : World) (gv : Value) (hg : GrAt w gv G) :
    Calls Try.prog 5 #[gv] w fun e w' => e = .returned (.bool (fitsB G)) ∧ Below w.heap.size w w' := by
  obtain ⟨A, cap, B, cb, rfl, h1, h2, h3⟩ := id hg
  obtain ⟨v0, q, hv0, hq, K, hb0, hs0⟩ := box_any w (.slice A G.nodes.length cap) (.slice B G.roots.length cb)
  have hw0 : Below w.heap.size w v0 := by rw [hq]; exact hb0
  have hrl : G.roots.length ≤ 9223372036854775807 := by
    obtain ⟨_, _, _, e, h4, h5, _⟩ := id h2
    omega
  have H3 := Lib.hid h3
  have e0 := K.cell (i := 0) rfl
  have e1 := K.cell (i := 1) rfl
  have HW0 := Lib.hid hw0
  clear h3 h2 K hb0 hg hw0
  by_cases hn : 30 < G.nodes.length
  · have hnb : decide (30 < G.nodes.length) = true := by simpa using hn
    have HE : Aside (fitsB G = false) := by
      show _ = _
      unfold fitsB
      rw [decide_eq_false (by omega : ¬ G.nodes.length ≤ 30)]
      rfl
    go_enter Try.func5, Try.ntmps5
    go_wp2_with fail
    go_ret
    exact ⟨ret_bool HE.out.symm, by first | exact HW0.out | (rw [← hq]; exact HW0.out)⟩
  have hnb : decide (30 < G.nodes.length) = false := by simpa using hn
  by_cases hr : 30 < G.roots.length
  · have hrb : decide (30 < G.roots.length) = true := by simpa using hr
    have HE : Aside (fitsB G = false) := by
      show _ = _
      unfold fitsB
      rw [decide_eq_false (by omega : ¬ G.roots.length ≤ 30), Bool.and_false]
      rfl
    go_enter Try.func5, Try.ntmps5
    go_wp2_with fail
    go_ret
    exact ⟨ret_bool HE.out.symm, by first | exact HW0.out | (rw [← hq]; exact HW0.out)⟩
  have hrb : decide (30 < G.roots.length) = false := by simpa using hr
  have HE : Aside (fitsB G = G.nodes.all (fun n => decide (n.out.length ≤ 30))) := by
    show _ = _
    unfold fitsB
    rw [decide_eq_true (by omega : G.nodes.length ≤ 30), decide_eq_true (by omega : G.roots.length ≤ 30)]
    simp
  go_enter Try.func5, Try.ntmps5
  go_wp2_with fail
  go_loopg [3] G.nodes.length (fun g s3 wr => ∃ (j : Nat), j + g = G.nodes.length ∧ s3 = .int .i64 j ∧ Aside ((G.nodes.drop j).all (fun n => decide (n.out.length ≤ 30)) = fitsB G) ∧ v0 = wr)
  case atStart => exact ⟨0, by omega, rfl, HE.out.symm, rfl⟩
  case round =>
    obtain ⟨j, hj, rfl, hr, rfl⟩ := hrel
    cases gk with
    | zero =>
      have : j = G.nodes.length := by omega
      subst this
      have HR : Aside (true = fitsB G) := by
        have := hr.out
        rw [List.drop_length] at this
        exact this
      clear hr
      go_wp2_with fail
      go_ret
      exact ⟨ret_bool HR.out, HW0.out⟩
    | succ g =>
      obtain ⟨x, hx⟩ : ∃ x, G.nodes[j]? = some x := ⟨_, List.getElem?_eq_getElem (by omega)⟩
      obtain ⟨hxo, b, o, C, cc, rfl, hbl, c1, c2, hrd⟩ := H3.out j x hx
      have hlt : (j : Int) < G.nodes.length := by omega
      have d2 := (HW0.out.cell (p := ⟨b, _, none⟩) hbl).trans c2
      have hxl : x.out.length ≤ 9223372036854775807 := by
        obtain ⟨_, _, _, e, h4, h5, _⟩ := id hrd
        omega
      have HR : Aside ((decide (x.out.length ≤ 30) && (G.nodes.drop (j + 1)).all (fun n => decide (n.out.length ≤ 30))) = fitsB G) := by
        have := hr.out
        rw [drop_nodes hx] at this
        exact this
      clear hr hx c1 c2 hrd hxo
      by_cases ho : 30 < x.out.length
      · have hob : decide (30 < x.out.length) = true := by simpa using ho
        have HZ : Aside (false = fitsB G) := by
          show _ = _
          rw [← HR.out, decide_eq_false (by omega : ¬ x.out.length ≤ 30)]
          rfl
        go_wp2_with fail
        go_ret
        exact ⟨ret_bool HZ.out, HW0.out⟩
      · have hob : decide (30 < x.out.length) = false := by simpa using ho
        have HZ : Aside ((G.nodes.drop (j + 1)).all (fun n => decide (n.out.length ≤ 30)) = fitsB G) := by
          show _ = _
          rw [← HR.out, decide_eq_true (by omega : x.out.length ≤ 30)]
          simp
        go_wp2_with fail
        go_roundg g
        case measure => omega
        case rel => exact ⟨j + 1, by omega, by go_num, HZ.out, rfl⟩

/-! ### alive -/
def gYes : Gp := ⟨[⟨2, [5, 5]⟩, ⟨5, []⟩, ⟨7, [9]⟩, ⟨9, [7, 5]⟩], [2]⟩
def gNo : Gp := ⟨[⟨2, [3]⟩], []⟩
theorem own_built (w : World) (L : List Int) (h : L.length ≤ 1000) : Own (w.alloc (.cells (vals L).toArray 3)) (.slice (some ⟨w.heap.size, 0, none⟩) L.length L.length) L := by
  refine ⟨by simp [vals], .inr ⟨w.heap.size, L.length, (vals L).toArray, rfl, Nat.zero_le _, ?_, Nat.le_refl _, by unfold maxLen; omega, by simp [vals], ?_⟩⟩
  · have := Blk.new w (vals L).toArray 3
    unfold Blk at this
    simpa using this
  · rw [List.take_of_length_le (by simp [vals])]
theorem rd_blk {w : World} {g : Nat} {L : List Int} (hb : Blk w g 3 (vals L)) (hL : L.length ≤ 1000) (ho : ∀ x ∈ L, i64ok x) : Rd w (.slice (some ⟨g, 0, none⟩) L.length L.length) L :=
  ⟨ho, _, _, rfl, Nat.le_refl _, by omega, fun j x hx => ⟨g, 0, rfl, hb.lt, by rw [Nat.zero_add]; exact hb.cell (vals_of L j x hx)⟩⟩
theorem rd_nil (w : World) : Rd w (.slice none 0 0) [] := ⟨by simp, none, 0, rfl, by simp, by omega, fun j x hx => by simp at hx⟩
theorem small_ok {L : List Int} (h : ∀ x ∈ L, -1000 ≤ x ∧ x ≤ 1000) : ∀ x ∈ L, i64ok x := fun x hx => by have := h x hx; unfold i64ok; omega
theorem yes_at {w : World} {b0 b1 b2 b3 b4 : Nat} (h0 : Blk w b0 3 (vals [5, 5])) (h1 : Blk w b1 3 (vals [9])) (h2 : Blk w b2 3 (vals [7, 5])) (h4 : Blk w b4 3 (vals [2]))
    (h3 : Blk w b3 38 [.int .i64 2, .slice (some ⟨b0, 0, none⟩) 2 2, .int .i64 5, .slice none 0 0, .int .i64 7, .slice (some ⟨b1, 0, none⟩) 1 1, .int .i64 9, .slice (some ⟨b2, 0, none⟩) 2 2]) :
    GrAt w (.agg #[.slice (some ⟨b3, 0, none⟩) 4 4, .slice (some ⟨b4, 0, none⟩) 1 1]) gYes := by
  refine ⟨some ⟨b3, 0, none⟩, 4, some ⟨b4, 0, none⟩, 1, rfl, by decide, rd_blk (L := [2]) h4 (by simp) (small_ok (by decide)), fun k x hx => ?_⟩
  match k, hx with
  | 0, hx => cases hx; exact ⟨by unfold i64ok; decide, b3, 0, some ⟨b0, 0, none⟩, 2, rfl, h3.lt, h3.cell rfl, h3.cell rfl, rd_blk (L := [5, 5]) h0 (by simp) (small_ok (by decide))⟩
  | 1, hx => cases hx; exact ⟨by unfold i64ok; decide, b3, 0, none, 0, rfl, h3.lt, h3.cell rfl, h3.cell rfl, rd_nil w⟩
  | 2, hx => cases hx; exact ⟨by unfold i64ok; decide, b3, 0, some ⟨b1, 0, none⟩, 1, rfl, h3.lt, h3.cell rfl, h3.cell rfl, rd_blk (L := [9]) h1 (by simp) (small_ok (by decide))⟩
  | 3, hx => cases hx; exact ⟨by unfold i64ok; decide, b3, 0, some ⟨b2, 0, none⟩, 2, rfl, h3.lt, h3.cell rfl, h3.cell rfl, rd_blk (L := [7, 5]) h2 (by simp) (small_ok (by decide))⟩
  | k + 4, hx => cases hx
theorem no_at {w : World} {b0 b1 : Nat} (h0 : Blk w b0 3 (vals [3])) (h1 : Blk w b1 38 [.int .i64 2, .slice (some ⟨b0, 0, none⟩) 1 1]) :
    GrAt w (.agg #[.slice (some ⟨b1, 0, none⟩) 1 1, .slice none 0 0]) gNo := by
  refine ⟨some ⟨b1, 0, none⟩, 1, none, 0, rfl, by decide, rd_nil w, fun k x hx => ?_⟩
  match k, hx with
  | 0, hx => cases hx; exact ⟨by unfold i64ok; decide, b1, 0, some ⟨b0, 0, none⟩, 1, rfl, h1.lt, h1.cell rfl, h1.cell rfl, rd_blk (L := [3]) h0 (by simp) (small_ok (by decide))⟩
  | k + 1, hx => cases hx
theorem yes_right : rightB gYes = true := by decide +kernel
theorem no_right : rightB gNo = false := by decide +kernel
theorem yes_reach : reachA gYes [9] = [5, 7, 9] := by decide +kernel
theorem yes_dead : deadA gYes = [7, 9] := by decide +kernel
theorem yes_counts : countsA gYes = [1, 3, 1, 1] := by decide +kernel
theorem no_reach : reachA gNo [2] = [] := by decide +kernel
theorem yes_all : (allP gYes).length ≤ 100000 := by decide +kernel

theorem alc (w : World) (cs : Array Value) (T : TypeId) : ∃ v p, w.alloc (.cells cs T) = v ∧ w.heap.size = p ∧ Blk v p T cs.toList ∧ Below w.heap.size w v :=
  ⟨_, _, rfl, rfl, Blk.new w cs T, (Below.refl _ w).alloc (Nat.le_refl _) _⟩
structure AL (w0 w : World) (q1 q2 a b c : Nat) : Prop where
  k1 : Blk w q1 25 [.slice (some ⟨a, 0, none⟩) 4 4, .slice (some ⟨b, 0, none⟩) 1 1]
  k2 : Blk w q2 25 [.slice (some ⟨c, 0, none⟩) 1 1, .slice none 0 0]
  yes : GrAt w (.agg #[.slice (some ⟨a, 0, none⟩) 4 4, .slice (some ⟨b, 0, none⟩) 1 1]) gYes
  no : GrAt w (.agg #[.slice (some ⟨c, 0, none⟩) 1 1, .slice none 0 0]) gNo
  below : Below w0.heap.size w0 w
section
variable {w0 w w' : World} {q1 q2 a b c : Nat}
theorem AL.more (h : AL w0 w q1 q2 a b c) (hb : Below w.heap.size w w') : AL w0 w' q1 q2 a b c := ⟨h.k1.below hb h.k1.lt, h.k2.below hb h.k2.lt, h.yes.below hb, h.no.below hb, below_more h.below hb⟩
theorem AL.alloc (h : AL w0 w q1 q2 a b c) (o : Obj) : AL w0 (w.alloc o) q1 q2 a b c := h.more ((Below.refl _ w).alloc (Nat.le_refl _) o)
theorem AL.cells (h : AL w0 w q1 q2 a b c) : w.cell? ⟨q1, 0, none⟩ = some (.slice (some ⟨a, 0, none⟩) 4 4) ∧ w.cell? ⟨q1, 1, none⟩ = some (.slice (some ⟨b, 0, none⟩) 1 1) ∧ w.cell? ⟨q2, 0, none⟩ = some (.slice (some ⟨c, 0, none⟩) 1 1) ∧ w.cell? ⟨q2, 1, none⟩ = some (.slice none 0 0) :=
  ⟨h.k1.cell rfl, h.k1.cell rfl, h.k2.cell rfl, h.k2.cell rfl⟩
/-- A list that the call has just built is compared with one that it was told. -/
theorem al_ints (h : AL w0 w q1 q2 a b c) (L : List Int) (hl : L.length ≤ 1000) {u : Value} (hu : Own w u L) {v : World} {p : Nat} (hv : w.alloc (.cells (vals L).toArray 3) = v) (hp : w.heap.size = p) :
    Calls Try.prog 7 #[u, .slice (some ⟨p, 0, none⟩) L.length L.length] v fun e w' => e = .returned (.bool true) ∧ AL w0 w' q1 q2 a b c := by
  subst hv hp
  exact (ints_any L hl _ _ _ (hu.below ((Below.refl _ w).alloc (Nat.le_refl _) _)) (own_built w L hl)).mono fun _ _ ⟨he, hb⟩ => ⟨he, (h.alloc _).more hb⟩
end
theorem own_of_row {w : World} {B : Nat} {u : Value} {L M : List Int} (h : w.ownsRow B 3 1 u L.length (vals L)) (e : L = M) : Own w u M := e ▸ (Own.of h).1
theorem al_start (w : World) : ∃ v1 p0 v2 p1 v3 p2 v4 p3 v5 p4 v6 p5 v7 p6 v8 p7 v9 p8,
    w.alloc (.cells #[.int .i64 5, .int .i64 5] 3) = v1 ∧ w.heap.size = p0 ∧ v1.alloc (.cells #[.int .i64 9] 3) = v2 ∧ v1.heap.size = p1 ∧ v2.alloc (.cells #[.int .i64 7, .int .i64 5] 3) = v3 ∧ v2.heap.size = p2 ∧
    v3.alloc (.cells #[.int .i64 2, .slice (some ⟨p0, 0, none⟩) 2 2, .int .i64 5, .slice none 0 0, .int .i64 7, .slice (some ⟨p1, 0, none⟩) 1 1, .int .i64 9, .slice (some ⟨p2, 0, none⟩) 2 2] 38) = v4 ∧ v3.heap.size = p3 ∧
    v4.alloc (.cells #[.int .i64 2] 3) = v5 ∧ v4.heap.size = p4 ∧ v5.alloc (.cells #[.slice (some ⟨p3, 0, none⟩) 4 4, .slice (some ⟨p4, 0, none⟩) 1 1] 25) = v6 ∧ v5.heap.size = p5 ∧
    v6.alloc (.cells #[.int .i64 3] 3) = v7 ∧ v6.heap.size = p6 ∧ v7.alloc (.cells #[.int .i64 2, .slice (some ⟨p6, 0, none⟩) 1 1] 38) = v8 ∧ v7.heap.size = p7 ∧
    v8.alloc (.cells #[.slice (some ⟨p7, 0, none⟩) 1 1, .slice none 0 0] 25) = v9 ∧ v8.heap.size = p8 ∧ AL w v9 p5 p8 p3 p4 p7 := by
  obtain ⟨v1, p0, e1, s0, b0, l0⟩ := alc w #[.int .i64 5, .int .i64 5] 3
  obtain ⟨v2, p1, e2, s1, b1, l1⟩ := alc v1 #[.int .i64 9] 3
  obtain ⟨v3, p2, e3, s2, b2, l2⟩ := alc v2 #[.int .i64 7, .int .i64 5] 3
  obtain ⟨v4, p3, e4, s3, b3, l3⟩ := alc v3 #[.int .i64 2, .slice (some ⟨p0, 0, none⟩) 2 2, .int .i64 5, .slice none 0 0, .int .i64 7, .slice (some ⟨p1, 0, none⟩) 1 1, .int .i64 9, .slice (some ⟨p2, 0, none⟩) 2 2] 38
  obtain ⟨v5, p4, e5, s4, b4, l4⟩ := alc v4 #[.int .i64 2] 3
  obtain ⟨v6, p5, e6, s5, b5, l5⟩ := alc v5 #[.slice (some ⟨p3, 0, none⟩) 4 4, .slice (some ⟨p4, 0, none⟩) 1 1] 25
  obtain ⟨v7, p6, e7, s6, b6, l6⟩ := alc v6 #[.int .i64 3] 3
  obtain ⟨v8, p7, e8, s7, b7, l7⟩ := alc v7 #[.int .i64 2, .slice (some ⟨p6, 0, none⟩) 1 1] 38
  obtain ⟨v9, p8, e9, s8, b8, l8⟩ := alc v8 #[.slice (some ⟨p7, 0, none⟩) 1 1, .slice none 0 0] 25
  have m7 := below_more l7 l8
  have m6 := below_more l6 m7
  have m5 := below_more l5 m6
  have m4 := below_more l4 m5
  have m3 := below_more l3 m4
  have m2 := below_more l2 m3
  have m1 := below_more l1 m2
  exact ⟨v1, p0, v2, p1, v3, p2, v4, p3, v5, p4, v6, p5, v7, p6, v8, p7, v9, p8, e1, s0, e2, s1, e3, s2, e4, s3, e5, s4, e6, s5, e7, s6, e8, s7, e9, s8,
    b5.below m6 b5.lt, b8, yes_at (b0.below m1 b0.lt) (b1.below m2 b1.lt) (b2.below m3 b2.lt) (b4.below m5 b4.lt) (b3.below m4 b3.lt), no_at (b6.below m7 b6.lt) (b7.below l8 b7.lt), below_more l0 m1⟩

end Gr
end Go.Proofs.Ytmnjbinmfbjbaaa
