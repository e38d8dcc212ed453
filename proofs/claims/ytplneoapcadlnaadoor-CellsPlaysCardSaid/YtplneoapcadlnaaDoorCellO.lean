/- The document's cells: what Begin has while it makes them. -/
import Derived.Test.YtplneoapcadlnaaDoorCellN
namespace Go.Proofs.YtplneoapcadlnaaDoor
open Go.RowKit

structure BC (w0 w : World) (db hb gb ib : Nat) (u uc uv : Value) (R : List (Nat × Nat)) (x : Sh) (m : Nat) : Prop where
  head : Blk w db 59 [.pointer (some ⟨hb, 0, none⟩), uc, uv]
  rf : RfIn w hb gb ib u x (List.replicate x.n x.s) (List.replicate x.n 0) (revR x.n x.n)
  cts : Own w uc (List.replicate m 0)
  rows : OwnR w uv R
  row : ∀ (i g n : Nat), R[i]? = some (g, n) → n = x.sl i ∧ Blk w g 43 ((nils n).flatMap Vl.cells)
  sh : Blk w w0.heap.size 24 x.vals
  lo : ∀ g ∈ dcFoot db hb gb ib u uc uv R, w0.heap.size < g
  a1 : db ∉ rfFoot hb gb ib u
  a2 : ∀ g, uc.ownBlock = some g → g ≠ db ∧ g ∉ rfFoot hb gb ib u ∧ uv.ownBlock ≠ some g ∧ g ∉ R.map Prod.fst
  a3 : ∀ g, uv.ownBlock = some g → g ≠ db ∧ g ∉ rfFoot hb gb ib u ∧ g ∉ R.map Prod.fst
  a4 : ∀ g ∈ R.map Prod.fst, g ≠ db ∧ g ∉ rfFoot hb gb ib u
  a5 : (R.map Prod.fst).Nodup
  below : Below w0.heap.size w0 w
section
variable {w0 w w' w1 : World} {db hb gb ib m : Nat} {u uc uv : Value} {R : List (Nat × Nat)} {x : Sh}
theorem row_mem {R : List (Nat × Nat)} {g : Nat} (hg : g ∈ R.map Prod.fst) : ∃ (i n : Nat), R[i]? = some (g, n) := by
  obtain ⟨i, hi, e⟩ := List.getElem_of_mem hg
  simp only [List.getElem_map] at e
  have hiR : i < R.length := by simpa using hi
  exact ⟨i, R[i].2, by rw [List.getElem?_eq_getElem hiR, ← e]⟩
theorem mem_row {R : List (Nat × Nat)} {i g n : Nat} (h : R[i]? = some (g, n)) : g ∈ R.map Prod.fst := List.mem_map.2 ⟨(g, n), List.mem_of_getElem? h, rfl⟩
theorem BC.foot_lt (h : BC w0 w db hb gb ib u uc uv R x m) : ∀ g ∈ dcFoot db hb gb ib u uc uv R, g < w.heap.size := by
  intro g hg
  rcases mem_dcFoot.1 hg with rfl | hg | hg | hg | hg
  · exact h.head.lt
  · exact h.cts.lt hg
  · exact (World.ownsRow.lt h.rows g hg).2
  · exact h.rf.foot_lt g hg
  · obtain ⟨i, n, h1⟩ := row_mem hg
    exact (h.row i g n h1).2.lt
theorem BC.more (h : BC w0 w db hb gb ib u uc uv R x m) (hb' : Below w.heap.size w w') : BC w0 w' db hb gb ib u uc uv R x m := by
  have ho := Only.of_below (S := []) hb'
  exact ⟨h.head.only ho (by simp), h.rf.only ho (by simp), h.cts.only ho (by simp), owns_only h.rows ho (by simp), fun i g n h1 => ⟨(h.row i g n h1).1, (h.row i g n h1).2.only ho (by simp)⟩, h.sh.only ho (by simp), h.lo, h.a1, h.a2, h.a3, h.a4, h.a5, below_more h.below hb'⟩
theorem BC.drew (h : BC w0 w db hb gb ib u uc uv R x m) : BC w0 w.drew db hb gb ib u uc uv R x m := ⟨h.head, h.rf.drew, h.cts, h.rows, h.row, h.sh, h.lo, h.a1, h.a2, h.a3, h.a4, h.a5, h.below.drew⟩
theorem BC.pushC (h : BC w0 w db hb gb ib u uc uv R x m) {g' cap' : Nat} (hO : Only uc.ownBlock.toList w w1) (hown : Own w1 (.slice (some ⟨g', 0, none⟩) (m + 1) cap') (List.replicate (m + 1) 0)) (hat : uc.ownBlock = some g' ∨ w.heap.size ≤ g') :
    BC w0 (w1.setCell ⟨db, 1, none⟩ (.slice (some ⟨g', 0, none⟩) (m + 1) cap')) db hb gb ib u (.slice (some ⟨g', 0, none⟩) (m + 1) cap') uv R x (m + 1) := by
  have hlt := h.foot_lt
  have hdb := hlt db (mem_dcFoot.2 (by simp))
  have hsl := h.sh.lt
  have hs : Only [db] w1 (w1.setCell ⟨db, 1, none⟩ (.slice (some ⟨g', 0, none⟩) (m + 1) cap')) := (Only.refl _ _).setCell (by simp) _
  have cu : ∀ b, (∀ g, uc.ownBlock = some g → b ≠ g) → b ∉ uc.ownBlock.toList := fun b hb hm => hb b (by simpa using hm) rfl
  have hO2 : Only (db :: uc.ownBlock.toList) w (w1.setCell ⟨db, 1, none⟩ (.slice (some ⟨g', 0, none⟩) (m + 1) cap')) := (hO.more fun k hk => Or.inl (List.mem_cons_of_mem _ hk)).setCell (Or.inl (by simp)) _
  have c2 : ∀ b, b ≠ db → (∀ g, uc.ownBlock = some g → b ≠ g) → b ∉ db :: uc.ownBlock.toList := fun b h1 h2 hm => by
    rcases List.mem_cons.1 hm with e | e
    · exact h1 e
    · exact cu b h2 e
  have fresh : ∀ b ∈ dcFoot db hb gb ib u uc uv R, (∀ g, uc.ownBlock = some g → b ≠ g) → b ≠ g' := fun b hb hn => by
    rcases hat with e | e
    · exact hn g' e
    · have := hlt b hb; omega
  have ob : ∀ g, (Value.slice (some ⟨g', 0, none⟩) (m + 1) cap').ownBlock = some g → g' = g := fun g hg => by simpa [Value.ownBlock] using hg
  have r1 : ∀ g ∈ rfFoot hb gb ib u, ∀ k, uc.ownBlock = some k → g ≠ k := fun g hg k hk e => (h.a2 k hk).2.1 (e ▸ hg)
  have r2 : ∀ g, uv.ownBlock = some g → ∀ k, uc.ownBlock = some k → g ≠ k := fun g hg k hk e => (h.a2 k hk).2.2.1 (e ▸ hg)
  have r3 : ∀ g ∈ R.map Prod.fst, ∀ k, uc.ownBlock = some k → g ≠ k := fun g hg k hk e => (h.a2 k hk).2.2.2 (e ▸ hg)
  have rd : ∀ k, uc.ownBlock = some k → db ≠ k := fun k hk e => (h.a2 k hk).1 e.symm
  have hge : w0.heap.size < g' := by
    rcases hat with e | e
    · exact h.lo g' (mem_dcFoot.2 (by simp [e]))
    · omega
  refine ⟨?_, h.rf.only hO2 (fun g hg => c2 g (fun e => h.a1 (e ▸ hg)) (r1 g hg)), ?_, owns_only h.rows hO2 (fun g hg => c2 g (h.a3 g hg).1 (r2 g hg)), fun i g n h1 => ⟨(h.row i g n h1).1, (h.row i g n h1).2.only hO2 (c2 g (h.a4 g (mem_row h1)).1 (r3 g (mem_row h1)))⟩, h.sh.only hO2 (c2 _ (by have := h.lo db (mem_dcFoot.2 (by simp)); omega) (fun k hk => by have := h.lo k (mem_dcFoot.2 (by simp [hk])); omega)), fun g hg => ?_, h.a1, fun g hg => ?_, fun g hg => h.a3 g hg, h.a4, h.a5, h.below.trans (hO2.below h.below.size (fun k hk => ?_))⟩
  · exact (h.head.only hO (cu db rd)).set 1 _
  · exact hown.only hs (fun g hg hm => by
      have e := ob g hg
      have e2 : g = db := by simpa using hm
      exact fresh db (mem_dcFoot.2 (by simp)) rd (by omega))
  · rcases mem_dcFoot.1 hg with rfl | hg | hg | hg | hg
    · exact h.lo _ (mem_dcFoot.2 (by simp))
    · rw [← ob g hg]; exact hge
    · exact h.lo _ (mem_dcFoot.2 (by simp [hg]))
    · exact h.lo _ (mem_dcFoot.2 (by simp [hg]))
    · exact h.lo _ (mem_dcFoot.2 (Or.inr (Or.inr (Or.inr (Or.inr hg)))))
  · have e := ob g hg
    subst e
    exact ⟨fun e => fresh db (mem_dcFoot.2 (by simp)) rd e.symm, fun hm => fresh g' (mem_dcFoot.2 (by simp [hm])) (r1 g' hm) rfl, fun hm => fresh g' (mem_dcFoot.2 (by simp [hm])) (r2 g' hm) rfl, fun hm => fresh g' (mem_dcFoot.2 (Or.inr (Or.inr (Or.inr (Or.inr hm))))) (r3 g' hm) rfl⟩
  · rcases List.mem_cons.1 hk with rfl | e
    · have := h.lo k (mem_dcFoot.2 (by simp)); omega
    · have e' : uc.ownBlock = some k := by simpa using e
      have := h.lo k (mem_dcFoot.2 (by simp [e'])); omega
theorem BC.pushV (h : BC w0 w db hb gb ib u uc uv R x m) {g' cap' ng q : Nat} (hR : R.length = q) (hO : Only uv.ownBlock.toList w w1) (hB : Blk w1 ng 43 ((nils (x.sl q)).flatMap Vl.cells)) (hng : w.heap.size ≤ ng) (hown : OwnR w1 (.slice (some ⟨g', 0, none⟩) (q + 1) cap') (R ++ [(ng, x.sl q)])) (hat : uv.ownBlock = some g' ∨ w.heap.size ≤ g' ∧ g' ≠ ng) :
    BC w0 (w1.setCell ⟨db, 2, none⟩ (.slice (some ⟨g', 0, none⟩) (q + 1) cap')) db hb gb ib u uc (.slice (some ⟨g', 0, none⟩) (q + 1) cap') (R ++ [(ng, x.sl q)]) x m := by
  have hlt := h.foot_lt
  have hdb := hlt db (mem_dcFoot.2 (by simp))
  have hsl := h.sh.lt
  have hs : Only [db] w1 (w1.setCell ⟨db, 2, none⟩ (.slice (some ⟨g', 0, none⟩) (q + 1) cap')) := (Only.refl _ _).setCell (by simp) _
  have cu : ∀ b, (∀ g, uv.ownBlock = some g → b ≠ g) → b ∉ uv.ownBlock.toList := fun b hb hm => hb b (by simpa using hm) rfl
  have hO2 : Only (db :: uv.ownBlock.toList) w (w1.setCell ⟨db, 2, none⟩ (.slice (some ⟨g', 0, none⟩) (q + 1) cap')) := (hO.more fun k hk => Or.inl (List.mem_cons_of_mem _ hk)).setCell (Or.inl (by simp)) _
  have c2 : ∀ b, b ≠ db → (∀ g, uv.ownBlock = some g → b ≠ g) → b ∉ db :: uv.ownBlock.toList := fun b h1 h2 hm => by
    rcases List.mem_cons.1 hm with e | e
    · exact h1 e
    · exact cu b h2 e
  have fresh : ∀ b ∈ dcFoot db hb gb ib u uc uv R, (∀ g, uv.ownBlock = some g → b ≠ g) → b ≠ g' := fun b hb hn => by
    rcases hat with e | e
    · exact hn g' e
    · have := hlt b hb; omega
  have nf : ∀ b ∈ dcFoot db hb gb ib u uc uv R, b ≠ ng := fun b hb => by have := hlt b hb; omega
  have ob : ∀ g, (Value.slice (some ⟨g', 0, none⟩) (q + 1) cap').ownBlock = some g → g' = g := fun g hg => by simpa [Value.ownBlock] using hg
  have r1 : ∀ g ∈ rfFoot hb gb ib u, ∀ k, uv.ownBlock = some k → g ≠ k := fun g hg k hk e => (h.a3 k hk).2.1 (e ▸ hg)
  have r2 : ∀ g, uc.ownBlock = some g → ∀ k, uv.ownBlock = some k → g ≠ k := fun g hg k hk e => (h.a2 g hg).2.2.1 (e ▸ hk)
  have r3 : ∀ g ∈ R.map Prod.fst, ∀ k, uv.ownBlock = some k → g ≠ k := fun g hg k hk e => (h.a3 k hk).2.2 (e ▸ hg)
  have rd : ∀ k, uv.ownBlock = some k → db ≠ k := fun k hk e => (h.a3 k hk).1 e.symm
  have ngg : g' ≠ ng := by
    rcases hat with e | e
    · exact nf g' (mem_dcFoot.2 (by simp [e]))
    · exact e.2
  have hge : w0.heap.size < g' := by
    rcases hat with e | e
    · exact h.lo g' (mem_dcFoot.2 (by simp [e]))
    · omega
  have mm : ∀ g, g ∈ (R ++ [(ng, x.sl q)]).map Prod.fst → g ∈ R.map Prod.fst ∨ g = ng := fun g hg => by
    simpa using hg
  refine ⟨?_, h.rf.only hO2 (fun g hg => c2 g (fun e => h.a1 (e ▸ hg)) (r1 g hg)), h.cts.only hO2 (fun g hg => c2 g (h.a2 g hg).1 (r2 g hg)), ?_, fun i g n h1 => ?_, h.sh.only hO2 (c2 _ (by have := h.lo db (mem_dcFoot.2 (by simp)); omega) (fun k hk => by have := h.lo k (mem_dcFoot.2 (by simp [hk])); omega)), fun g hg => ?_, h.a1, fun g hg => ?_, fun g hg => ?_, fun g hg => ?_, ?_, h.below.trans (hO2.below h.below.size (fun k hk => ?_))⟩
  · exact (h.head.only hO (cu db rd)).set 2 _
  · exact owns_only hown hs (fun g hg hm => by
      have e := ob g hg
      have e2 : g = db := by simpa using hm
      exact fresh db (mem_dcFoot.2 (by simp)) rd (by omega))
  · by_cases hi : i < R.length
    · rw [List.getElem?_append_left hi] at h1
      exact ⟨(h.row i g n h1).1, (h.row i g n h1).2.only hO2 (c2 g (h.a4 g (mem_row h1)).1 (r3 g (mem_row h1)))⟩
    · rw [List.getElem?_append_right (by omega)] at h1
      have hi2 : i = R.length := by
        have := (List.getElem?_eq_some_iff.1 h1).1
        simp at this; omega
      subst hi2
      simp at h1
      obtain ⟨rfl, rfl⟩ := h1
      rw [hR]
      exact ⟨rfl, hB.only hs (by have := nf db (mem_dcFoot.2 (by simp)); simp; omega)⟩
  · rcases mem_dcFoot.1 hg with rfl | hg | hg | hg | hg
    · exact h.lo _ (mem_dcFoot.2 (by simp))
    · exact h.lo _ (mem_dcFoot.2 (by simp [hg]))
    · rw [← ob g hg]; exact hge
    · exact h.lo _ (mem_dcFoot.2 (by simp [hg]))
    · rcases mm g hg with e | e
      · exact h.lo _ (mem_dcFoot.2 (Or.inr (Or.inr (Or.inr (Or.inr e)))))
      · omega
  · obtain ⟨q1, q2, q3, q4⟩ := h.a2 g hg
    refine ⟨q1, q2, fun e => ?_, fun hm => (mm g hm).elim q4 (nf g (mem_dcFoot.2 (by simp [hg])))⟩
    exact fresh g (mem_dcFoot.2 (by simp [hg])) (r2 g hg) (ob g e).symm
  · have e := ob g hg
    subst e
    exact ⟨fun e => fresh db (mem_dcFoot.2 (by simp)) rd e.symm, fun hm => fresh g' (mem_dcFoot.2 (by simp [hm])) (r1 g' hm) rfl, fun hm => (mm g' hm).elim (fun hm => fresh g' (mem_dcFoot.2 (Or.inr (Or.inr (Or.inr (Or.inr hm))))) (r3 g' hm) rfl) ngg⟩
  · rcases mm g hg with e | e
    · exact h.a4 g e
    · subst e
      exact ⟨fun e => nf db (mem_dcFoot.2 (by simp)) e.symm, fun hm => nf g (mem_dcFoot.2 (by simp [hm])) rfl⟩
  · rw [List.map_append, List.nodup_append]
    refine ⟨h.a5, by simp, fun a ha b hb e => ?_⟩
    have hb' : b = ng := by simpa using hb
    exact nf a (mem_dcFoot.2 (Or.inr (Or.inr (Or.inr (Or.inr ha))))) (e.trans hb')
  · rcases List.mem_cons.1 hk with rfl | e
    · have := h.lo k (mem_dcFoot.2 (by simp)); omega
    · have e' : uv.ownBlock = some k := by simpa using e
      have := h.lo k (mem_dcFoot.2 (by simp [e'])); omega
theorem BC.done (h : BC w0 w db hb gb ib u uc uv R x x.n) (hR : R.length = x.n) (hm : x.may = true) : DcIn w db hb gb ib u uc uv R x (c0 x) (revR x.n x.n) (ct0 x) (vs0 x) := by
  refine ⟨h.head, ?_, h.cts, h.rows, fun i g n l h1 h2 => ?_, ⟨c0_len x, by simp [ct0], by simp [vs0], hR⟩, fun i l h2 => ?_, hm, h.a1, h.a2, h.a3, h.a4, h.a5⟩
  · unfold c0
    rw [← gs_start, ← is_start x hm]
    exact h.rf
  · have hi : i < x.n := by have := (List.getElem?_eq_some_iff.1 h1).1; omega
    rw [vs0_at x hi] at h2
    obtain rfl := Option.some.inj h2
    obtain ⟨rfl, hB⟩ := h.row i g n h1
    exact ⟨by simp [nils], hB⟩
  · have hi : i < x.n := by have := (List.getElem?_eq_some_iff.1 h2).1; simpa [vs0] using this
    rw [vs0_at x hi] at h2
    obtain rfl := Option.some.inj h2
    simp [nils]
end
end Go.Proofs.YtplneoapcadlnaaDoor
