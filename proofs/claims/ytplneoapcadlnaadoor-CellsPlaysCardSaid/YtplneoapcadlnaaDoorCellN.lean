/- The document's cells: Free. -/
import Derived.Test.YtplneoapcadlnaaDoorCellM
namespace Go.Proofs.YtplneoapcadlnaaDoor
open Go.RowKit
attribute [local go_sem ↓] Go.wp_at_zero Go.wp_at_succ

theorem madeVl (n : Nat) : (madeCells #[.int .i64 0, .int .u64 0] (n * 2)).toList = (nils n).flatMap Vl.cells := by
  unfold nils
  induction n with
  | zero => simp [madeCells]
  | succ n ih =>
    rw [List.replicate_succ', List.flatMap_append, ← ih]
    have e : (n + 1) * 2 = n * 2 + 1 + 1 := by omega
    rw [e]
    have h1 : (n * 2 + 1) % 2 = 1 := by omega
    have h0 : n * 2 % 2 = 0 := by omega
    simp [madeCells, List.range_succ, Vl.cells, Vl.nil, h1, h0]
set_option maxRecDepth 100000 in
theorem Tryd.infoVal : ∃ i, Tryd.prog.info? 43 = some i ∧ i.zero = some (.agg #[.int .i64 0, .int .u64 0]) ∧ i.size = 2 ∧ i.bytes = 16 := ⟨_, rfl, by kernel_rfl, by kernel_rfl, by kernel_rfl⟩
theorem run_vals (w : World) (n : Nat) (h : n ≤ 65536) :
    (Instr.makeSlice 87 (.int .i64 n) (.int .i64 n)).run Tryd.prog w = .ok (.slice (some ⟨w.heap.size, 0, none⟩) n n) (w.alloc (.cells (madeCells #[.int .i64 0, .int .u64 0] (n * 2)) 43)) := by
  obtain ⟨i, h1, h2, h3, h4⟩ := Tryd.infoVal
  have := run_make (P := Tryd.prog) w 87 43 i (.agg #[.int .i64 0, .int .u64 0]) Tryd.underlying87 h1 h2 .i64 .i64 n n (by omega) (Int.le_refl _) (by rw [h4]; omega) (by omega)
  rw [h3, Int.toNat_natCast] at this
  exact this
theorem nodup_set {l : List Nat} (h : l.Nodup) {g : Nat} (hg : g ∉ l) (i : Nat) : (l.set i g).Nodup := by
  unfold List.Nodup
  rw [List.pairwise_iff_getElem]
  intro a b ha hb hab
  have ha' : a < l.length := by simpa using ha
  have hb' : b < l.length := by simpa using hb
  rw [List.getElem_set, List.getElem_set]
  split
  · split
    · omega
    · exact fun e => hg (e ▸ List.getElem_mem hb')
  · split
    · exact fun e => hg (e ▸ List.getElem_mem ha')
    · exact (List.pairwise_iff_getElem.1 h) a b ha' hb' hab

section
variable {w w' : World} {db hb gb ib : Nat} {u uc uv : Value} {R : List (Nat × Nat)} {x : Sh} {cs : List St} {pl ct : List Int} {vs : List (List Vl)}
theorem DcIn.putR (h : DcIn w db hb gb ib u uc uv R x cs pl ct vs) {i vb g n ng : Nat} (hvb : uv.ownBlock = some vb) (hr : R[i]? = some (g, n)) {w2 : World} (hO : Only [vb] w w2) (hrow : w2.ownsRow 0 87 1 uv R.length ((R.map RV).set i (RV (ng, n)))) (hB : Blk w2 ng 43 ((nils n).flatMap Vl.cells)) (hng : w.heap.size = ng) :
    DcIn w2 db hb gb ib u uc uv (R.set i (ng, n)) x cs pl ct (vs.set i (nils n)) ∧ Step (dcFoot db hb gb ib u uc uv R) w (dcFoot db hb gb ib u uc uv (R.set i (ng, n))) w2 := by
  have hlt := h.foot_lt
  have hvlt := hlt vb (mem_dcFoot.2 (by simp [hvb]))
  obtain ⟨q1, q2, q3⟩ := h.a3 vb hvb
  have hiR : i < R.length := (List.getElem?_eq_some_iff.1 hr).1
  have hmem : ∀ b, b ∈ (R.set i (ng, n)).map Prod.fst → b ∈ R.map Prod.fst ∨ b = ng := fun b hb => by
    obtain ⟨r, hr, rfl⟩ := List.mem_map.1 hb
    rcases List.mem_or_eq_of_mem_set hr with h' | rfl
    · exact Or.inl (List.mem_map.2 ⟨r, h', rfl⟩)
    · exact Or.inr rfl
  have nf : ∀ b ∈ dcFoot db hb gb ib u uc uv R, b ≠ ng := fun b hb => by have := hlt b hb; omega
  have iv : i < vs.length := by have := h.lens; omega
  refine ⟨⟨h.head.only hO (by simpa using q1.symm), h.rf.only hO (fun k hk hm => q2 (by simp at hm; rwa [← hm])), h.cts.only hO (fun k hk hm => (h.a2 k hk).2.2.1 (by simp at hm; rw [hm, hvb])), ?_, fun i' b n' l' h1 h2 => ?_, by simpa using h.lens, fun i' l' h2 => ?_, h.may, h.a1, fun k hk => ?_, fun k hk => ?_, fun k hk => ?_, ?_⟩, hO.more fun k hk => Or.inl (mem_dcFoot.2 (by simp at hk; simp [hk, hvb])), fun k hk => ?_⟩
  · show World.ownsRow _ 0 87 1 uv (R.set i (ng, n)).length _
    rw [List.length_set, List.map_set]
    exact hrow
  · rw [set_any] at h1 h2
    by_cases e : i = i'
    · subst e
      rw [if_pos rfl, if_pos hiR] at h1
      rw [if_pos rfl, if_pos iv] at h2
      obtain ⟨rfl, rfl⟩ : ng = b ∧ n = n' := by simpa using h1
      obtain rfl := Option.some.inj h2
      exact ⟨by simp [nils], hB⟩
    · rw [if_neg e] at h1 h2
      obtain ⟨en, hB'⟩ := h.row i' b n' l' h1 h2
      exact ⟨en, hB'.only hO (fun hm => q3 (by simp at hm; rw [← hm]; exact List.mem_map.2 ⟨(b, n'), List.mem_of_getElem? h1, rfl⟩))⟩
  · rw [set_any] at h2
    by_cases e : i = i'
    · subst e
      rw [if_pos rfl, if_pos iv] at h2
      obtain rfl := Option.some.inj h2
      obtain ⟨l, hl⟩ : ∃ l, vs[i]? = some l := ⟨_, List.getElem?_eq_getElem iv⟩
      rw [← h.slots i l hl, ← (h.row i g n l hr hl).1]
      simp [nils]
    · rw [if_neg e] at h2
      exact h.slots i' l' h2
  · obtain ⟨r1, r2, r3, r4⟩ := h.a2 k hk
    exact ⟨r1, r2, r3, fun hm => (hmem k hm).elim r4 (nf k (mem_dcFoot.2 (by simp [hk])))⟩
  · obtain ⟨r1, r2, r3⟩ := h.a3 k hk
    exact ⟨r1, r2, fun hm => (hmem k hm).elim r3 (nf k (mem_dcFoot.2 (by simp [hk])))⟩
  · rcases hmem k hk with hm | rfl
    · exact h.a4 k hm
    · exact ⟨fun e => nf db (mem_dcFoot.2 (by simp)) e.symm, fun hm => nf k (mem_dcFoot.2 (by simp [hm])) rfl⟩
  · rw [List.map_set]
    exact nodup_set h.a5 (fun hm => nf ng (mem_dcFoot.2 (Or.inr (Or.inr (Or.inr (Or.inr hm))))) rfl) i
  · rcases mem_dcFoot.1 hk with rfl | hk | hk | hk | hk
    · exact Or.inl (mem_dcFoot.2 (by simp))
    · exact Or.inl (mem_dcFoot.2 (by simp [hk]))
    · exact Or.inl (mem_dcFoot.2 (by simp [hk]))
    · exact Or.inl (mem_dcFoot.2 (by simp [hk]))
    · rcases hmem k hk with hm | hm
      · exact Or.inl (mem_dcFoot.2 (Or.inr (Or.inr (Or.inr (Or.inr hm)))))
      · exact Or.inr (by omega)
set_option maxRecDepth 100000 in
set_option maxHeartbeats 1600000 in
theorem freeD_any {p : Nat → List Int} (n : Int) (h : DcIn w db hb gb ib u uc uv R x cs pl ct vs) (hs : Sim x cs p pl) :
    Calls Tryd.prog 42 #[.pointer (some ⟨db, 0, none⟩), .int .i64 n] w fun e w' => e = .returned (.tuple #[.bool (gvLast cs n), .int .i64 (gvE cs n)]) ∧
      ∃ u' R' pl', DcIn w' db hb gb ib u' uc uv R' x (gvC cs n) pl' (frC cs ct n) (frV x cs vs n) ∧ Sim x (gvC cs n) (gvP cs p n) pl' ∧ Step (dcFoot db hb gb ib u uc uv R) w (dcFoot db hb gb ib u' uc uv R') w' := by
  have c0 := h.cells.1
  have hT := rgive_is n h.rf hs
  have hsm := h.small
  rcases gv_ok cs n with ⟨he, hok, i, z, rfl, hz, ht, hC⟩ | ⟨he, hok, hla⟩
  · have hil : i < cs.length := (List.getElem?_eq_some_iff.1 hz).1
    have hi : i < x.n := by have := h.lens.1; omega
    have e1 : frC cs ct i = ct.set i 0 := by simp [frC, hok]
    have e2 : frV x cs vs i = vs.set i (nils (x.sl i)) := by simp [frV, hok]
    have hCl : (gvC cs i).length = cs.length := gvC_len cs i
    rw [he] at hT
    rw [he, e1, e2]
    have HH := Lib.hid h
    have HCL := Lib.hid hCl
    generalize gvC cs i = C at *
    generalize gvP cs p i = P at *
    generalize gvLast cs i = B at *
    clear hC he hok ht hz h hs e1 e2 hCl
    go_enter Tryd.func42, Tryd.ntmps42
    go_wp2_with (go_at_call 74; refine hT.mono ?_; rintro e w1 ⟨rfl, u', pl', hR, hS, ho, hat⟩; have h1 := HH.out.list hR ho hat HCL.out; have hs1 := DcIn.listStep (db := db) (uc := uc) (uv := uv) (R := R) ho hat; obtain ⟨cbk, ccap, c, huc, q3, q4, hob, _, hcc, hcf⟩ := h1.cat hi; have c1 := h1.cells.2.1; rw [huc] at c1; have hp := h1.putC hob i 0)
    have h2 := hp.1
    have hs2 := hs1.trans hp.2
    obtain ⟨vb, vcap, g, l, huv, q1, q2, hvo, hv, hr, hc, hf, hl, hB⟩ := h2.vat hi
    have c2 := h2.cells.2.2
    rw [huv] at c2
    have hl4 : l.length ≤ 4 := by have := (Sh.sl_is h2.may i).2.1; omega
    have hmk := fun W => run_vals W l.length (by omega)
    have HF := Lib.hid (fun (w2 : World) (ng : Nat) hO hrow hB hng => h2.drew.putR (ng := ng) (w2 := w2) hvo hr hO hrow hB hng)
    have HO := Lib.hid h2.rows
    have HVO := Lib.hid hvo
    have HS2 := Lib.hid hs2
    have HS := Lib.hid hS
    have HL := Lib.hid hl
    have hvlt := World.block_lt_of_cell? _ _ hc
    have hdl := h2.head.lt
    clear hv hr hB hl huv huc hob hvo h2 hs2 hp hs1 h1 hS hR ho hat hT
    generalize w1.setCell ⟨cbk, i, none⟩ (.int .i64 0) = W2 at *
    have hvlt' : vb < W2.heap.size := hvlt
    have hne : vb ≠ W2.heap.size := Nat.ne_of_lt hvlt'
    have hc' := fun o : Obj => (World.cell?_alloc_old W2 o ⟨vb, i, none⟩ hne).trans hc
    have hf' := fun o : Obj => (World.frozen?_alloc_old W2 o ⟨vb, i, none⟩ hne).trans hf
    have hdlt : db ≠ W2.heap.size := Nat.ne_of_lt hdl
    have hd' := fun o : Obj => (World.cell?_alloc_old W2 o ⟨db, 2, none⟩ hdlt).trans c2
    go_region
    all_goals
      go_wp2_with fail
      go_ret2
      have r := HF.out ((W2.setCell ⟨vb, i, none⟩ (.slice (some ⟨W2.heap.size, 0, none⟩) l.length l.length)).alloc (.cells (madeCells #[.int .i64 0, .int .u64 0] (l.length * 2)) 43)).drew W2.heap.size
        (((Only.refl [vb] _).setCell (Or.inl (by simp)) _).alloc _) (World.ownsRow.alloc (owns_set HO.out HVO.out i (RV (W2.heap.size, l.length))) _)
        (by rw [← madeVl]; have := Blk.new (W2.setCell ⟨vb, i, none⟩ (.slice (some ⟨W2.heap.size, 0, none⟩) l.length l.length)) (madeCells #[.int .i64 0, .int .u64 0] (l.length * 2)) 43; rwa [show (W2.setCell ⟨vb, i, none⟩ (.slice (some ⟨W2.heap.size, 0, none⟩) l.length l.length)).heap.size = W2.heap.size by simp] at this) rfl
      rw [← HL.out]
      exact ⟨rfl, u', _, pl', r.1, HS.out, HS2.out.drewR.trans r.2⟩
  · have hC : gvC cs n = cs := by simp [gvC, hok]
    have hP : gvP cs p n = p := by simp [gvP, hok]
    have e1 : frC cs ct n = ct := by simp [frC, hok]
    have e2 : frV x cs vs n = vs := by simp [frV, hok]
    rw [hla, hC, hP] at hT
    rw [hla, hC, hP, e1, e2]
    have HH := Lib.hid h
    generalize gvE cs n = E at *
    clear hC hP hla hok h hs e1 e2
    go_enter Tryd.func42, Tryd.ntmps42
    go_wp2_with (go_at_call 74; refine hT.mono ?_; rintro e w1 ⟨rfl, u', pl', hR, hS, ho, hat⟩)
    go_ret2
    exact ⟨rfl, u', R, pl', HH.out.list hR ho hat rfl, hS, DcIn.listStep ho hat⟩
end
end Go.Proofs.YtplneoapcadlnaaDoor
