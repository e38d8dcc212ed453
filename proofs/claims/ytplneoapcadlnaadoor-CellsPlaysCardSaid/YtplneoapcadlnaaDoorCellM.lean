/- The document's cells: Set. -/
import Derived.Test.YtplneoapcadlnaaDoorCellL
namespace Go.Proofs.YtplneoapcadlnaaDoor
open Go.RowKit
attribute [local go_sem ↓] Go.wp_at_zero Go.wp_at_succ

theorem Step.trans {F F' F'' : List Nat} {w w' w'' : World} (h : Step F w F' w') (h' : Step F' w' F'' w'') : Step F w F'' w'' :=
  ⟨h.1.trans h'.1 h.2, fun g hg => (h'.2 g hg).elim (h.2 g) (fun e => Or.inr (Nat.le_trans h.1.size e))⟩
theorem Step.drewR {F F' : List Nat} {w w' : World} (h : Step F w F' w') : Step F w F' w'.drew := ⟨h.1.drew, h.2⟩
section
variable {w w' : World} {db hb gb ib : Nat} {u uc uv : Value} {R : List (Nat × Nat)} {x : Sh} {cs : List St} {pl ct : List Int} {vs : List (List Vl)}
set_option maxRecDepth 100000 in
set_option maxHeartbeats 1600000 in
theorem setD_any (n k : Int) (y : Vl) (h : DcIn w db hb gb ib u uc uv R x cs pl ct vs) :
    Calls Tryd.prog 44 #[.pointer (some ⟨db, 0, none⟩), .int .i64 n, .int .i64 k, Wd.val y.k y.n] w fun e w' => e = .returned (.int .i64 (stE x cs n k y)) ∧ DcIn w' db hb gb ib u uc uv R x cs pl ct (stV x cs vs n k y) ∧ Step (dcFoot db hb gb ib u uc uv R) w (dcFoot db hb gb ib u uc uv R) w' := by
  have hs := h.small
  have hb0 : Below w.heap.size w (w.alloc (.cells #[.int .i64 y.k, .int .u64 y.n] 43)) := (Below.refl _ _).alloc (Nat.le_refl _) _
  have hZ0 : Blk (w.alloc (.cells #[.int .i64 y.k, .int .u64 y.n] 43)) w.heap.size 43 [.int .i64 y.k, .int .u64 y.n] := Blk.new w _ _
  have hR := fun W => Wd.rright_any y.k y.n W
  have HH := Lib.hid h
  unfold Wd.val at *
  cases hrb : Wd.rightB y.k y.n
  · obtain ⟨e1, e2⟩ := st_bad (x := x) (cs := cs) (vs := vs) (n := n) (k := k) hrb
    rw [e1, e2]
    clear e1 e2 h hZ0
    go_enter Tryd.func44, Tryd.ntmps44
    go_wp2_with (go_at_call 75; refine (hR _).mono ?_; rw [hrb]; rintro e w1 ⟨rfl, hb1⟩)
    go_ret
    exact ⟨rfl, HH.out.more (below_more hb0 hb1), Step.same (Only.of_below (below_more hb0 hb1))⟩
  · have hD1 : ∀ {w1 : World}, Below (w.alloc (.cells #[.int .i64 y.k, .int .u64 y.n] 43)).heap.size (w.alloc (.cells #[.int .i64 y.k, .int .u64 y.n] 43)) w1 → DcIn w1 db hb gb ib u uc uv R x cs pl ct vs ∧ Step (dcFoot db hb gb ib u uc uv R) w (dcFoot db hb gb ib u uc uv R) w1 := fun hb1 =>
      ⟨HH.out.more (below_more hb0 hb1), Step.same (Only.of_below (below_more hb0 hb1))⟩
    cases hS : inS x n k
    · obtain ⟨e0, _⟩ := pl_out (bs := 0) (cs := cs) hS
      obtain ⟨e1, e2⟩ := st_err (vs := vs) hrb (show (plE x cs n k == 0) = false by rw [e0]; rfl)
      rw [e1, e2, e0]
      obtain ⟨A, cap, huv, q1, q2⟩ := h.vform
      have HV := Lib.hid huv
      have C2 : ∀ {W : World}, DcIn W db hb gb ib u uc uv R x cs pl ct vs → W.cell? ⟨db, 2, none⟩ = some (.slice A x.n cap) := fun hW => by have := hW.cells.2.2; rwa [HV.out] at this
      rcases inS_no hS with hn | hn | ⟨i, rfl, hi, hk⟩
      · clear h hS e1 e2 hZ0 e0 huv C2
        go_enter Tryd.func44, Tryd.ntmps44
        go_wp2_with (go_at_call 75; refine (hR _).mono ?_; rw [hrb]; rintro e w1 ⟨rfl, hb1⟩)
        go_ret
        exact ⟨rfl, hD1 hb1⟩
      · have h0n : ¬ n < 0 := by omega
        clear h hS e1 e2 hZ0 e0 huv
        go_enter Tryd.func44, Tryd.ntmps44
        go_wp2_with (go_at_call 75; refine (hR _).mono ?_; rw [hrb]; rintro e w1 ⟨rfl, hb1⟩; have c2 := C2 (hD1 hb1).1)
        go_ret
        exact ⟨rfl, hD1 hb1⟩
      · by_cases hk0 : k < 0
        · clear h hS e1 e2 hZ0 e0 hk huv
          go_enter Tryd.func44, Tryd.ntmps44
          go_wp2_with (go_at_call 75; refine (hR _).mono ?_; rw [hrb]; rintro e w1 ⟨rfl, hb1⟩; have c2 := C2 (hD1 hb1).1)
          go_ret
          exact ⟨rfl, hD1 hb1⟩
        · obtain ⟨vb, cap', g, l, huv', _, _, _, hv, hr, hc, _, hl, hB⟩ := h.vat hi
          rw [huv] at huv'
          obtain ⟨rfl, rfl⟩ : A = some ⟨vb, 0, none⟩ ∧ cap = cap' := by simpa using huv'
          have hlk : (l.length : Int) ≤ k := by omega
          have hl4 : l.length ≤ 4 := by have := (Sh.sl_is h.may i).2.1; omega
          have hvlt : vb < w.heap.size := World.block_lt_of_cell? w ⟨vb, i, none⟩ hc
          have CV : ∀ {w1 : World}, Below (w.alloc (.cells #[.int .i64 y.k, .int .u64 y.n] 43)).heap.size (w.alloc (.cells #[.int .i64 y.k, .int .u64 y.n] 43)) w1 → w1.cell? ⟨vb, i, none⟩ = some (.slice (some ⟨g, 0, none⟩) l.length l.length) := fun hb1 => ((below_more hb0 hb1).cell (p := ⟨vb, i, none⟩) hvlt).trans hc
          clear h hS e1 e2 hk hv hr hB hl huv huv' hc hZ0 e0
          go_enter Tryd.func44, Tryd.ntmps44
          go_wp2_with (go_at_call 75; refine (hR _).mono ?_; rw [hrb]; rintro e w1 ⟨rfl, hb1⟩; have c2 := C2 (hD1 hb1).1; have c3 := CV hb1)
          go_ret
          exact ⟨rfl, hD1 hb1⟩
    · obtain ⟨i, j, rfl, rfl, hi, hj⟩ := inS_at hS
      obtain ⟨vb, cap, g, l, huv, q1, q2, _, hv, hr, hc, _, hl, hB⟩ := h.vat hi
      have HV := Lib.hid huv
      have C2 : ∀ {W : World}, DcIn W db hb gb ib u uc uv R x cs pl ct vs → W.cell? ⟨db, 2, none⟩ = some (.slice (some ⟨vb, 0, none⟩) x.n cap) := fun hW => by have := hW.cells.2.2; rwa [HV.out] at this
      have hjl : j < l.length := by omega
      have hl4 : l.length ≤ 4 := by have := (Sh.sl_is h.may i).2.1; omega
      have htk := rtaken_is cs i
      have hvlt : vb < w.heap.size := World.block_lt_of_cell? w ⟨vb, i, none⟩ hc
      have CV : ∀ {w1 : World}, Below (w.alloc (.cells #[.int .i64 y.k, .int .u64 y.n] 43)).heap.size (w.alloc (.cells #[.int .i64 y.k, .int .u64 y.n] 43)) w1 → w1.cell? ⟨vb, i, none⟩ = some (.slice (some ⟨g, 0, none⟩) l.length l.length) := fun hb1 => ((below_more hb0 hb1).cell (p := ⟨vb, i, none⟩) hvlt).trans hc
      cases ht : takenZ cs i
      · obtain ⟨e0, _⟩ := pl_none (bs := 0) hS ht
        obtain ⟨e1, e2⟩ := st_err (vs := vs) hrb (show (plE x cs i j == 0) = false by rw [e0]; rfl)
        rw [e1, e2, e0]
        rw [ht] at htk
        clear h hS e1 e2 hv hr hB hl hj hc hZ0 e0 huv
        go_enter Tryd.func44, Tryd.ntmps44
        go_wp2_with (first
          | (go_at_call 75; refine (hR _).mono ?_; rw [hrb]; rintro e w1 ⟨rfl, hb1⟩; have c2 := C2 (hD1 hb1).1; have c3 := CV hb1; have c0 := (hD1 hb1).1.cells.1)
          | (go_at_call 51; refine (rtaken_any _ (hD1 hb1).1.rf).mono ?_; rw [htk]; rintro e w3 ⟨rfl, rfl⟩))
        go_ret
        exact ⟨rfl, hD1 hb1⟩
      · obtain ⟨e0, _⟩ := pl_yes (bs := 0) hS ht
        obtain ⟨e1, e2⟩ := st_yes hrb e0 hv
        rw [e1, e2]
        rw [ht] at htk
        obtain ⟨y', hy'⟩ : ∃ y', l[j]? = some y' := ⟨_, List.getElem?_eq_getElem hjl⟩
        obtain ⟨y0, y1⟩ := flat_vl hy'
        have CB : ∀ {W : World}, DcIn W db hb gb ib u uc uv R x cs pl ct vs → W.cell? ⟨g, j * 2, none⟩ = some (.int .i64 y'.k) ∧ W.cell? ⟨g, j * 2 + 1, none⟩ = some (.int .u64 y'.n) ∧ W.frozen? ⟨g, j * 2, none⟩ = false ∧ W.frozen? ⟨g, j * 2 + 1, none⟩ = false := fun {W} hW => by
          have hB' := (hW.row i g l.length l hr hv).2
          exact ⟨hB'.cell y0, hB'.cell y1, hB'.free _, hB'.free _⟩
        have HP := fun (W : World) (hW : DcIn W db hb gb ib u uc uv R x cs pl ct vs) => hW.putV hr hv hjl y rfl
        have HPH := Lib.hid HP
        have HZ := Lib.hid hZ0
        clear h hS e1 e2 hv hr hB hl hj hc hZ0 e0 huv HP y0 y1 hy'
        go_enter Tryd.func44, Tryd.ntmps44
        go_wp2_with (first
          | (go_at_call 75; refine (hR _).mono ?_; rw [hrb]; rintro e w1 ⟨rfl, hb1⟩; have c2 := C2 (hD1 hb1).1; have c3 := CV hb1; have c0 := (hD1 hb1).1.cells.1)
          | (go_at_call 51; refine (rtaken_any _ (hD1 hb1).1.rf).mono ?_; rw [htk]; rintro e w3 ⟨rfl, rfl⟩))
        have hz1 := HZ.out.below hb1 HZ.out.lt
        have z0 := hz1.cell (i := 0) rfl
        have z1 := hz1.cell (i := 1) rfl
        obtain ⟨d0, d1, d2, d3⟩ := CB (hD1 hb1).1
        have HF := Lib.hid (HPH.out _ (hD1 hb1).1.drew)
        have HS := Lib.hid (hD1 hb1).2
        clear hz1 HPH CB hD1 CV C2
        go_still_tail 10, (by kernel_rfl)
        go_wp2_with fail
        go_ret
        exact ⟨rfl, HF.out.1, HS.out.drewR.trans HF.out.2⟩
end
end Go.Proofs.YtplneoapcadlnaaDoor
