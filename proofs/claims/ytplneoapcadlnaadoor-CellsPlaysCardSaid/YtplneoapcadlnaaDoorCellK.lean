/- The document's cells: Get. -/
import Derived.Test.YtplneoapcadlnaaDoorCellJ
namespace Go.Proofs.YtplneoapcadlnaaDoor
open Go.RowKit
attribute [local go_sem ↓] Go.wp_at_zero Go.wp_at_succ

section
variable {w w' : World} {db hb gb ib : Nat} {u uc uv : Value} {R : List (Nat × Nat)} {x : Sh} {cs : List St} {pl ct : List Int} {vs : List (List Vl)}
set_option maxRecDepth 100000 in
set_option maxHeartbeats 1600000 in
theorem getD_any (n k : Int) (h : DcIn w db hb gb ib u uc uv R x cs pl ct vs) :
    Calls Tryd.prog 45 #[.pointer (some ⟨db, 0, none⟩), .int .i64 n, .int .i64 k] w fun e w' => e = .returned (.tuple #[Wd.val (gtV x cs vs n k).k (gtV x cs vs n k).n, .int .i64 (plE x cs n k)]) ∧ Below w.heap.size w w' := by
  have hs := h.small
  have hb0 : Below w.heap.size w (w.alloc (.cells #[.int .i64 0, .int .u64 0] 43)) := (Below.refl _ _).alloc (Nat.le_refl _) _
  have hZ0 : Blk (w.alloc (.cells #[.int .i64 0, .int .u64 0] 43)) w.heap.size 43 [.int .i64 0, .int .u64 0] := Blk.new w _ _
  have f0 := hZ0.free 0
  have f1 := hZ0.free 1
  have z0 := hZ0.cell (i := 0) rfl
  have z1 := hZ0.cell (i := 1) rfl
  have h0 := h.more hb0
  have HZ := Lib.hid hZ0
  clear hZ0
  unfold Wd.val
  cases hS : inS x n k
  · obtain ⟨e1, e2⟩ := pl_out (bs := 0) (cs := cs) hS
    rw [gt_err (by omega), e1]
    unfold Vl.nil
    obtain ⟨A, cap, huv, q1, q2⟩ := h0.vform
    have c2 := h0.cells.2.2
    rw [huv] at c2
    rcases inS_no hS with hn | hn | ⟨i, rfl, hi, hk⟩
    · clear h h0 hS e1 e2
      go_enter Tryd.func45, Tryd.ntmps45
      go_wp2_with fail
      refine bodyPost_ret (res_cell_tmp rfl _ _ w.heap.size 43 _ (0, 0) _ _ rfl rfl HZ.out Tryd.underlying43 rfl (by kernel_rfl)) rfl ?_
      exact ⟨rfl, hb0⟩
    · have h0n : ¬ n < 0 := by omega
      clear h h0 hS e1 e2
      go_enter Tryd.func45, Tryd.ntmps45
      go_wp2_with fail
      refine bodyPost_ret (res_cell_tmp rfl _ _ w.heap.size 43 _ (0, 0) _ _ rfl rfl HZ.out Tryd.underlying43 rfl (by kernel_rfl)) rfl ?_
      exact ⟨rfl, hb0⟩
    · by_cases hk0 : k < 0
      · clear h h0 hS e1 e2 hk
        go_enter Tryd.func45, Tryd.ntmps45
        go_wp2_with fail
        refine bodyPost_ret (res_cell_tmp rfl _ _ w.heap.size 43 _ (0, 0) _ _ rfl rfl HZ.out Tryd.underlying43 rfl (by kernel_rfl)) rfl ?_
        exact ⟨rfl, hb0⟩
      · obtain ⟨vb, cap', g, l, huv', _, _, _, hv, hr, hc, _, hl, hB⟩ := h0.vat hi
        rw [huv] at huv'
        obtain ⟨rfl, rfl⟩ : A = some ⟨vb, 0, none⟩ ∧ cap = cap' := by simpa using huv'
        have hlk : (l.length : Int) ≤ k := by omega
        have hl4 : l.length ≤ 4 := by have := (Sh.sl_is h.may i).2.1; omega
        clear h h0 hS e1 e2 hk hv hr hB hl huv huv'
        go_enter Tryd.func45, Tryd.ntmps45
        go_wp2_with fail
        refine bodyPost_ret (res_cell_tmp rfl _ _ w.heap.size 43 _ (0, 0) _ _ rfl rfl HZ.out Tryd.underlying43 rfl (by kernel_rfl)) rfl ?_
        exact ⟨rfl, hb0⟩
  · obtain ⟨i, j, rfl, rfl, hi, hj⟩ := inS_at hS
    obtain ⟨vb, cap, g, l, huv, q1, q2, _, hv, hr, hc, _, hl, hB⟩ := h0.vat hi
    obtain ⟨c0, c1, c2⟩ := h0.cells
    rw [huv] at c2
    have hjl : j < l.length := by omega
    have hl4 : l.length ≤ 4 := by have := (Sh.sl_is h.may i).2.1; omega
    have HRF := Lib.hid h0.rf
    have htk := rtaken_is cs i
    cases ht : takenZ cs i
    · obtain ⟨e1, e2⟩ := pl_none (bs := 0) hS ht
      rw [gt_err (by omega), e1]
      unfold Vl.nil
      rw [ht] at htk
      clear h h0 hS e1 e2 hv hr hB hl huv hj
      go_enter Tryd.func45, Tryd.ntmps45
      go_wp2_with (go_at_call 51; refine (rtaken_any _ HRF.out).mono ?_; rw [htk]; rintro e w3 ⟨rfl, rfl⟩)
      refine bodyPost_ret (res_cell_tmp rfl _ _ w.heap.size 43 _ (0, 0) _ _ rfl rfl HZ.out Tryd.underlying43 rfl (by kernel_rfl)) rfl ?_
      exact ⟨rfl, hb0⟩
    · obtain ⟨e1, e2⟩ := pl_yes (bs := 0) hS ht
      obtain ⟨y, hy⟩ : ∃ y, l[j]? = some y := ⟨_, List.getElem?_eq_getElem hjl⟩
      rw [gt_yes e1 hv hy, e1]
      rw [ht] at htk
      obtain ⟨y0, y1⟩ := flat_vl hy
      have d0 := hB.cell y0
      have d1 := hB.cell y1
      clear h h0 hS e1 e2 hv hr hB hl huv hj hy y0 y1
      go_enter Tryd.func45, Tryd.ntmps45
      go_wp2_with (go_at_call 51; refine (rtaken_any _ HRF.out).mono ?_; rw [htk]; rintro e w3 ⟨rfl, rfl⟩)
      refine bodyPost_ret (res_cell_tmp rfl _ _ w.heap.size 43 _ (0, 0) _ _ rfl rfl (Blk.new w _ _) Tryd.underlying43 rfl (by kernel_rfl)) rfl ?_
      exact ⟨rfl, (Below.refl _ _).alloc (Nat.le_refl _) _⟩
end
end Go.Proofs.YtplneoapcadlnaaDoor
