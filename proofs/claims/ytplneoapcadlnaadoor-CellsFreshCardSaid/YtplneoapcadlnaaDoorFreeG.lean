/- New of a share that may be. -/
import Derived.Test.YtplneoapcadlnaaDoorFreeF
namespace Go.Proofs.YtplneoapcadlnaaDoor
open Go.RowKit
attribute [local go_sem ↓] Go.wp_at_zero Go.wp_at_succ

theorem nw_start {w w2 : World} {x : Sh} (hl : Lay w) (n : Nat) (hn : n ≤ 192) (hsh : Blk w2 w.heap.size 24 x.vals) (hb : Below w.heap.size w w2) (f : Int → Int) (s : Int) :
    NW w ((w2.alloc (.cells (madeCells #[.int .i64 0, .int .i64 0, .bool false] (n * 3)) 104)).alloc (.cells #[.slice (some ⟨w2.heap.size, 0, none⟩) n n, .slice none 0 0, .slice none 0 0, .slice none 0 0] 102)) (w2.heap.size + 1) w2.heap.size nilV x (csTo f s n 0) nilP := by
  have hs := hsh.lt
  refine ⟨⟨?_, ?_, fun k _ => Own.nil _, by omega, fun k g _ hg => by simp [nilV, Value.ownBlock] at hg, fun j k g _ _ hg => by simp [nilV, Value.ownBlock] at hg, by rw [csTo_length]; exact hn⟩, (hsh.alloc _).alloc _, fun g hg => ?_, hl.below ((hb.alloc hb.size _).alloc (by have := hb.size; simp; omega) _), hl, (hb.alloc hb.size _).alloc (by have := hb.size; simp; omega) _⟩
  · rw [csTo_length]
    have := Blk.new (w2.alloc (.cells (madeCells #[.int .i64 0, .int .i64 0, .bool false] (n * 3)) 104)) #[.slice (some ⟨w2.heap.size, 0, none⟩) n n, .slice none 0 0, .slice none 0 0, .slice none 0 0] 102
    simpa [nilV] using this
  · rw [csTo_zero, ← madeState]
    exact (Blk.new w2 _ 104).alloc _
  · rcases mem_frFoot.1 hg with rfl | rfl | ⟨k, _, hg⟩
    · omega
    · omega
    · simp [nilV, Value.ownBlock] at hg

theorem NW.put3 {w0 w : World} {hb cb : Nat} {v : Nat → Value} {x : Sh} {cs : List St} {p : Nat → List Int} (h : NW w0 w hb cb v x cs p) {i : Nat} {y : St} (c g : Int) (t : Bool) (hy : cs[i]? = some y) :
    NW w0 (((w.setCell ⟨cb, i * 3, none⟩ (.int .i64 c)).setCell ⟨cb, i * 3 + 1, none⟩ (.int .i64 g)).setCell ⟨cb, i * 3 + 2, none⟩ (.bool t)) hb cb v x (cs.set i ⟨c, g, t⟩) p := by
  have hi : i < cs.length := (List.getElem?_eq_some_iff.1 hy).1
  have hlo := h.lo cb (mem_frFoot.2 (by simp))
  have hF := ((h.fr.put (i := i) (j := 0) (x := y) (y := ⟨c, y.g, y.t⟩) (u := .int .i64 c) hy rfl (by omega)).put (i := i) (j := 1) (x := ⟨c, y.g, y.t⟩) (y := ⟨c, g, y.t⟩) (u := .int .i64 g) (by simp [hi]) rfl (by omega)).put (i := i) (j := 2) (x := ⟨c, g, y.t⟩) (y := ⟨c, g, t⟩) (u := .bool t) (by simp [hi]) rfl (by omega)
  rw [List.set_set, List.set_set] at hF
  have hO : Only [cb] w (((w.setCell ⟨cb, i * 3, none⟩ (.int .i64 c)).setCell ⟨cb, i * 3 + 1, none⟩ (.int .i64 g)).setCell ⟨cb, i * 3 + 2, none⟩ (.bool t)) := (((Only.refl _ _).setCell (by simp) _).setCell (by simp) _).setCell (by simp) _
  have hB : Below w0.heap.size w0 _ := h.below.trans (hO.below h.below.size (by simp; omega))
  exact ⟨hF, h.sh.only hO (by simp; omega), h.lo, h.lay0.below hB, h.lay0, hB⟩

theorem Own.of {w : World} {base : Nat} {u : Value} {L : List Int} (h : w.ownsRow base 3 1 u L.length (vals L)) : Own w u L ∧ ∀ g, u.ownBlock = some g → base ≤ g := by
  refine ⟨⟨h.1, ?_⟩, fun g hg => (h.lt g hg).1⟩
  rcases h.2 with hn | ⟨g, cap, cur, hv, _, rest⟩
  · exact .inl hn
  · exact .inr ⟨g, cap, cur, hv, Nat.zero_le _, rest⟩
theorem FrIn.congr {w : World} {hb cb : Nat} {v : Nat → Value} {cs : List St} {p p' : Nat → List Int} (h : FrIn w hb cb v cs p) (he : ∀ k, k < 3 → p k = p' k) : FrIn w hb cb v cs p' :=
  ⟨h.head, h.row, fun k hk => by rw [← he k hk]; exact h.pile k hk, h.hc, h.far, h.apart, h.len⟩
def pTo (cs : List St) (n j : Nat) : Nat → List Int := fun m => if m < j then wholeL cs m n else []
theorem pTo_upd (cs : List St) (n j : Nat) : upd (pTo cs n j) j (wholeL cs j n) = pTo cs n (j + 1) := by
  funext m
  unfold upd pTo
  by_cases e : m = j
  · subst e; rw [if_pos rfl, if_pos (by omega)]
  · rw [if_neg e]
    by_cases h : m < j
    · rw [if_pos h, if_pos (by omega)]
    · rw [if_neg h, if_neg (by omega)]
theorem NW.repile {w0 w w1 : World} {hb cb : Nat} {v : Nat → Value} {x : Sh} {cs : List St} {p : Nat → List Int} (h : NW w0 w hb cb v x cs p) {k : Nat} (hk : k < 3) (hb1 : Below w.heap.size w w1) {u : Value} {L : List Int}
    (hu : w1.ownsRow w.heap.size 3 1 u L.length (vals L)) : NW w0 (w1.setCell ⟨hb, 1 + k, none⟩ u) hb cb (upd v k u) x cs (upd p k L) := by
  obtain ⟨ho, hge⟩ := Own.of hu
  have hsl := h.sh.lt
  have hhb := h.lo hb (mem_frFoot.2 (by simp))
  have hO : Only [hb] w1 (w1.setCell ⟨hb, 1 + k, none⟩ u) := (Only.refl _ _).setCell (by simp) _
  have h1 := h.more hb1
  have hB : Below w0.heap.size w0 (w1.setCell ⟨hb, 1 + k, none⟩ u) := h1.below.trans (hO.below h1.below.size (by simp; omega))
  refine ⟨h.fr.repile hk (Only.of_below (S := []) hb1) (by simp) ho (fun g hg => Or.inr (hge g hg)), h1.sh.only hO (by simp; omega), fun g hg => ?_, h.lay0.below hB, h.lay0, hB⟩
  rcases mem_frFoot.1 hg with rfl | rfl | ⟨j, hj, hg⟩
  · exact hhb
  · exact h.lo _ (mem_frFoot.2 (by simp))
  · by_cases e : j = k
    · subst e; rw [upd_same] at hg; have := hge g hg; omega
    · rw [upd_ne _ _ e] at hg; exact h.lo g (mem_frFoot.2 (Or.inr (Or.inr ⟨j, hj, hg⟩)))

set_option maxRecDepth 100000 in
set_option maxHeartbeats 1600000 in
theorem newL_any (x : Sh) (w : World) (hl : Lay w) (hm : x.may = true) :
    Calls Tryd.prog 31 #[.agg #[.int .i64 x.a, .int .i64 x.b, .int .i64 x.c, .int .i64 x.q, .int .i64 x.s]] w fun e w' => ∃ hb cb v, e = .returned (.tuple #[.pointer (some ⟨hb, 0, none⟩), .int .i64 0]) ∧
      FrIn w' hb cb v (csTo x.cz x.s x.n x.n) (fun k => wholeL (csTo x.cz x.s x.n x.n) k x.n) ∧ (∀ g ∈ frFoot hb cb v, w.heap.size < g) ∧ Below w.heap.size w w' := by
  have hr := right_one x
  rw [hm] at hr
  obtain ⟨hct, hn⟩ := x.count hm
  have hmk := fun W => run_states W x.n (by omega)
  have HCT := Lib.hid hct
  clear hct
  generalize hnn : x.n = n at *
  have HNN := Lib.hid hnn
  clear hnn
  go_enter Tryd.func31, Tryd.ntmps31
  go_wp2_with (go_at_call 69; refine (right_any _ _ [x] _ ?hR (by simp)).mono ?_)
  case hR =>
    intro k y hy
    match k, hy with
    | 0, hy =>
      simp at hy
      subst hy
      refine ⟨_, _, rfl, by simp, ?_⟩
      refine ⟨?_, ?_, ?_, ?_, ?_⟩ <;> (rw [World.cell?_alloc_at _ _ _ _ (by simp)]; rfl)
  rintro e w1 ⟨rfl, hb1⟩
  have hbw1 : Below w.heap.size w w1 := below_more (((Below.refl _ _).alloc (Nat.le_refl _) _).alloc (by simp) _) hb1
  have hsh1 : Blk w1 w.heap.size 24 x.vals := ((Blk.new w #[.int .i64 x.a, .int .i64 x.b, .int .i64 x.c, .int .i64 x.q, .int .i64 x.s] 24).alloc _).below hb1 (by simp; omega)
  have s0 : w1.cell? ⟨w.heap.size, 0, none⟩ = some (.int .i64 x.a) := hsh1.cell rfl
  have s1 : w1.cell? ⟨w.heap.size, 1, none⟩ = some (.int .i64 x.b) := hsh1.cell rfl
  have s2 : w1.cell? ⟨w.heap.size, 2, none⟩ = some (.int .i64 x.c) := hsh1.cell rfl
  have s3 : w1.cell? ⟨w.heap.size, 3, none⟩ = some (.int .i64 x.q) := hsh1.cell rfl
  have s4 : w1.cell? ⟨w.heap.size, 4, none⟩ = some (.int .i64 x.s) := hsh1.cell rfl
  clear hb1
  go_wp2_with (go_at_call 34; refine (count_any _ _ _ _ _ _).mono ?_; rw [HCT.out]; rintro e w2 ⟨rfl, hb2⟩)
  have hN := nw_start (x := x) hl n hn (hsh1.below hb2 hsh1.lt) (below_more hbw1 hb2) x.cz x.s
  clear s0 s1 s2 s3 s4 hsh1 hbw1 hb2
  generalize w2.heap.size = cb at *
  generalize (w2.alloc (.cells (madeCells #[.int .i64 0, .int .i64 0, .bool false] (n * 3)) 104)).alloc (.cells #[.slice (some ⟨cb, 0, none⟩) n n, .slice none 0 0, .slice none 0 0, .slice none 0 0] 102) = W at *
  clear hmk
  go_loopw [21] (fun i wr => ∃ k : Nat, k ≤ n ∧ i = .int .i64 k ∧ NW w wr (cb + 1) cb nilV x (csTo x.cz x.s n k) nilP) (fun i _ => n - (intOf i).toNat)
  case atStart => exact ⟨0, by omega, rfl, hN⟩
  case round =>
    obtain ⟨k, hk, rfl, hNr⟩ := hrel
    clear hN
    by_cases hlt : k < n
    · have st : ∀ {W : World} {i : Nat}, NW w W (cb + 1) cb nilV x (csTo x.cz x.s n i) nilP → W.cell? ⟨cb + 1, 0, none⟩ = some (.slice (some ⟨cb, 0, none⟩) n n) ∧ W.cell? ⟨w.heap.size, 0, none⟩ = some (.int .i64 x.a) ∧ W.cell? ⟨w.heap.size, 1, none⟩ = some (.int .i64 x.b) ∧ W.cell? ⟨w.heap.size, 2, none⟩ = some (.int .i64 x.c) ∧ W.cell? ⟨w.heap.size, 3, none⟩ = some (.int .i64 x.q) ∧ W.cell? ⟨w.heap.size, 4, none⟩ = some (.int .i64 x.s) := fun h => by
        have := h.cells
        rwa [csTo_length] at this
      have b1 : (0 : Int) ≤ (k : Int) := by omega
      have b2 : (k : Int) < (n : Int) := by omega
      go_wp2_with fail
      go_region_held3 (fun W => W.cell? ⟨cb + 1, 0, none⟩ = some (.slice (some ⟨cb, 0, none⟩) n n) ∧ W.cell? ⟨w.heap.size, 0, none⟩ = some (.int .i64 x.a) ∧ W.cell? ⟨w.heap.size, 1, none⟩ = some (.int .i64 x.b) ∧ W.cell? ⟨w.heap.size, 2, none⟩ = some (.int .i64 x.c) ∧ W.cell? ⟨w.heap.size, 3, none⟩ = some (.int .i64 x.q) ∧ W.cell? ⟨w.heap.size, 4, none⟩ = some (.int .i64 x.s))
        (first | exact st hNr | exact st hNr.drew | exact st hN3 | exact st hN4)
        (first | (go_at_call 56; refine (class_any _ _ _ _ _ _ _ hNr.drew.lay (by omega)).mono ?_; rintro e w3 ⟨rfl, hb3⟩; have hN3 := hNr.drew.more hb3; obtain ⟨z0, z1, z2⟩ := hN3.fr.cell (csTo_at x.cz x.s n k k hlt); have y0 := hN3.fr.row.free (k * 3); have y1 := hN3.fr.row.free (k * 3 + 1); have y2 := hN3.fr.row.free (k * 3 + 2); have hN4 := hN3.put3 (x.cz k) x.s false (csTo_at x.cz x.s n k k hlt); rw [csTo_set] at hN4))
      go_wp2_with fail
      go_roundw
      case rel => exact ⟨k + 1, by omega, by go_num, hN4⟩
      case measure => simp [intOf]; omega
    · have : k = n := by omega
      subst this
      go_wp2_with fail
      have hN0 : ∃ v, NW w wr (cb + 1) cb v x (csTo x.cz x.s k k) (pTo (csTo x.cz x.s k k) k 0) := ⟨_, hNr⟩
      clear hNr
      go_loopw [37] (fun i W => ∃ j : Nat, j ≤ 3 ∧ i = .int .i64 j ∧ ∃ v, NW w W (cb + 1) cb v x (csTo x.cz x.s k k) (pTo (csTo x.cz x.s k k) k j)) (fun i _ => 3 - (intOf i).toNat)
      case atStart => exact ⟨0, by omega, rfl, hN0⟩
      case round =>
        obtain ⟨j, hj, rfl, v, hNr⟩ := hrel
        clear hN0
        by_cases hlt : j < 3
        · have b1 : (0 : Int) ≤ (j : Int) := by omega
          have b2 : (j : Int) < 3 := by omega
          go_wp2_with fail
          go_region_held3 (fun _ => True) (trivial)
            (first | (go_at_call 70; refine (whole_any _ hNr.drew.fr).mono ?_; rintro e w3 ⟨u, rfl, hu, hb3⟩; rw [csTo_length] at hu; have hN4 := hNr.drew.repile hlt hb3 hu; rw [pTo_upd] at hN4; have y0 := (hNr.drew.more hb3).fr.ck hlt; have y1 := (hNr.drew.more hb3).fr.head.free (1 + j); obtain ⟨A, cap, rfl, _⟩ := (Own.of hu).1.form))
          go_wp2_with fail
          go_roundw
          case rel => exact ⟨j + 1, by omega, by go_num, _, hN4⟩
          case measure => simp [intOf]; omega
        · have : j = 3 := by omega
          subst this
          go_wp2_with fail
          go_ret2
          exact ⟨_, _, _, rfl, hNr.fr.congr (fun m hm => by simp [pTo, hm]), hNr.lo, hNr.below⟩
end Go.Proofs.YtplneoapcadlnaaDoor
