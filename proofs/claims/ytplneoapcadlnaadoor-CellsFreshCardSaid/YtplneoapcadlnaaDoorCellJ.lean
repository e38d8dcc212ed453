/- The document's cells: Header, Get. -/
import Derived.Test.YtplneoapcadlnaaDoorCellI
namespace Go.Proofs.YtplneoapcadlnaaDoor
open Go.RowKit
attribute [local go_sem ↓] Go.wp_at_zero Go.wp_at_succ

theorem inS_no {x : Sh} {n k : Int} (h : inS x n k = false) : n < 0 ∨ (x.n : Int) ≤ n ∨ ∃ i : Nat, n = i ∧ i < x.n ∧ (k < 0 ∨ (x.sl i : Int) ≤ k) := by
  have ho := inN_out h
  by_cases h0 : n < 0
  · exact Or.inl h0
  by_cases h1 : (x.n : Int) ≤ n
  · exact Or.inr (Or.inl h1)
  obtain ⟨i, rfl⟩ : ∃ i : Nat, n = i := ⟨n.toNat, by omega⟩
  have hi : i < x.n := by omega
  rw [slX_at hi] at ho
  exact Or.inr (Or.inr ⟨i, rfl, hi, by omega⟩)
theorem inS_yes {x : Sh} {i j : Nat} (hi : i < x.n) (hj : j < x.sl i) : inS x i j = true := inN_t (by rw [slX_at hi]; omega)
theorem flat_vl {l : List Vl} {j : Nat} {y : Vl} (h : l[j]? = some y) : (l.flatMap Vl.cells)[j * 2]? = some (.int .i64 y.k) ∧ (l.flatMap Vl.cells)[j * 2 + 1]? = some (.int .u64 y.n) :=
  ⟨by simpa using flat_at Vl.cells_len l j 0 y _ h rfl, flat_at Vl.cells_len l j 1 y _ h rfl⟩

section
variable {w w' : World} {db hb gb ib : Nat} {u uc uv : Value} {R : List (Nat × Nat)} {x : Sh} {cs : List St} {pl ct : List Int} {vs : List (List Vl)}
theorem DcIn.res (h : DcIn w db hb gb ib u uc uv R x cs pl ct vs) {w1 w2 : World} (h1 : DcIn w1 db hb gb ib u uc uv R x cs pl ct vs) (h2 : Only [w.heap.size] w1 w2) : DcIn w2 db hb gb ib u uc uv R x cs pl ct vs := by
  have hlt := h.foot_lt
  exact h1.only h2 (fun g hg => by have := hlt g hg; simp; omega)
theorem below_res {w w1 w2 : World} (h : Below w.heap.size w w1) (h2 : Only [w.heap.size] w1 w2) : Below w.heap.size w w2 := h.trans (h2.below h.size (by simp))
set_option maxRecDepth 100000 in
set_option maxHeartbeats 1600000 in
theorem headD_any (n : Int) (h : DcIn w db hb gb ib u uc uv R x cs pl ct vs) :
    Calls Tryd.prog 13 #[.pointer (some ⟨db, 0, none⟩), .int .i64 n] w fun e w' => e = .returned (.tuple #[Hd.hdr (genZ cs n) (ctZ ct n) (takenZ cs n), .int .i64 (hdE cs n)]) ∧ Below w.heap.size w w' := by
  obtain ⟨l1, l2, l3, l4⟩ := h.lens
  have hs := h.small
  have hb0 : Below w.heap.size w (w.alloc (.cells #[.int .i64 0, .int .i64 0, .bool false] 47)) := (Below.refl _ _).alloc (Nat.le_refl _) _
  have hZ0 : Blk (w.alloc (.cells #[.int .i64 0, .int .i64 0, .bool false] 47)) w.heap.size 47 [.int .i64 0, .int .i64 0, .bool false] := Blk.new w _ _
  have f0 := hZ0.free 0
  have f1 := hZ0.free 1
  have f2 := hZ0.free 2
  have z0 := hZ0.cell (i := 0) rfl
  have z1 := hZ0.cell (i := 1) rfl
  have z2 := hZ0.cell (i := 2) rfl
  have h0 := h.more hb0
  have HZ := Lib.hid hZ0
  clear hZ0
  cases hbn : inN n x.n
  · obtain ⟨e1, e2, e3, e4⟩ := hd_out l1 l2 hbn
    rw [e1, e2, e3, e4]
    obtain ⟨A, cap, rfl, q1, q2⟩ := h0.vform
    have c2 := h0.cells.2.2
    have ho := inN_out hbn
    unfold Hd.hdr
    clear h0 h hbn e1 e2 e3 e4 l1 l2 l3 l4
    by_cases hneg : n < 0
    · clear ho
      go_enter Tryd.func13, Tryd.ntmps13
      go_wp2_with fail
      refine bodyPost_ret (res_cell_tmp rfl _ _ w.heap.size 47 _ (0, 0) _ _ rfl rfl HZ.out Tryd.underlying47 rfl (by kernel_rfl)) rfl ?_
      exact ⟨rfl, hb0⟩
    · have hge : (x.n : Int) ≤ n := by omega
      clear ho
      go_enter Tryd.func13, Tryd.ntmps13
      go_wp2_with fail
      refine bodyPost_ret (res_cell_tmp rfl _ _ w.heap.size 47 _ (0, 0) _ _ rfl rfl HZ.out Tryd.underlying47 rfl (by kernel_rfl)) rfl ?_
      exact ⟨rfl, hb0⟩
  · have hin := inN_in hbn
    obtain ⟨i, rfl⟩ : ∃ i : Nat, n = i := ⟨n.toNat, by omega⟩
    have hi : i < x.n := by omega
    obtain ⟨z, hz⟩ : ∃ z, cs[i]? = some z := ⟨_, List.getElem?_eq_getElem (by omega)⟩
    obtain ⟨cbk, ccap, c, huc, q3, q4, _, hc, hcc, _⟩ := h0.cat hi
    obtain ⟨A, cap, huv, q1, q2⟩ := h0.vform
    rw [genZ_at hz, ctZ_at hc, takenZ_at hz, hd_in l1 hi]
    have hg := (rgen_is cs i).trans (genZ_at hz)
    have ht := (rtaken_is cs i).trans (takenZ_at hz)
    obtain ⟨c0, c1, c2⟩ := h0.cells
    have cell : ∀ W : World, DcIn W db hb gb ib u uc uv R x cs pl ct vs → W.cell? ⟨db, 0, none⟩ = some (.pointer (some ⟨hb, 0, none⟩)) ∧ W.cell? ⟨db, 1, none⟩ = some (.slice (some ⟨cbk, 0, none⟩) x.n ccap) ∧ W.cell? ⟨cbk, i, none⟩ = some (.int .i64 c) := fun W hW => by
      obtain ⟨d0, d1, _⟩ := hW.cells
      obtain ⟨cb', cap', c', e1, _, _, _, e2, e3, _⟩ := hW.cat hi
      rw [huc] at e1
      obtain ⟨rfl, rfl⟩ : cbk = cb' ∧ ccap = cap' := by simpa using e1
      rw [hc] at e2
      obtain rfl := Option.some.inj e2
      exact ⟨d0, huc ▸ d1, e3⟩
    have hst := fun a b c => cell _ (h.more ((Below.refl w.heap.size w).alloc (Nat.le_refl _) (.cells #[a, b, c] 47))).drew
    have hst0 := cell _ h0
    have hst1 := cell _ h0.drew
    have HRF := Lib.hid h0.drew.rf
    rw [huc] at c1
    rw [huv] at c2
    unfold Hd.hdr
    clear h h0 cell hin hc hz l1 l2 l3 l4 huc huv
    go_enter Tryd.func13, Tryd.ntmps13
    go_wp2_with fail
    go_region_held3 (fun W => W.cell? ⟨db, 0, none⟩ = some (.pointer (some ⟨hb, 0, none⟩)) ∧ W.cell? ⟨db, 1, none⟩ = some (.slice (some ⟨cbk, 0, none⟩) x.n ccap) ∧ W.cell? ⟨cbk, i, none⟩ = some (.int .i64 c)) (first | exact hst0 | exact hst1 | exact hst _ _ _)
      (first
        | (go_at_call 50; refine (rgen_any _ HRF.out).mono ?_; rw [hg]; rintro e w3 ⟨rfl, rfl⟩)
        | (go_at_call 51; refine (rtaken_any _ HRF.out).mono ?_; rw [ht]; rintro e w3 ⟨rfl, rfl⟩))
    go_wp2_with fail
    refine bodyPost_ret (res_cell_tmp rfl _ _ w.heap.size 47 _ (0, 0) _ _ rfl rfl (Blk.new w _ _).drew Tryd.underlying47 rfl (by kernel_rfl)) rfl ?_
    exact ⟨rfl, ((Below.refl _ _).alloc (Nat.le_refl _) _).drew⟩
end
end Go.Proofs.YtplneoapcadlnaaDoor
