/- The document's cells: SetCount, Set. -/
import Derived.Test.YtplneoapcadlnaaDoorCellJ
import Derived.StillTailTactics
namespace Go.Proofs.YtplneoapcadlnaaDoor
open Go.RowKit
attribute [local go_sem ↓] Go.wp_at_zero Go.wp_at_succ

section
variable {w w' : World} {db hb gb ib : Nat} {u uc uv : Value} {R : List (Nat × Nat)} {x : Sh} {cs : List St} {pl ct : List Int} {vs : List (List Vl)}
theorem DcIn.putC (h : DcIn w db hb gb ib u uc uv R x cs pl ct vs) {g : Nat} (hg : uc.ownBlock = some g) (i : Nat) (c : Int) : DcIn (w.setCell ⟨g, i, none⟩ (.int .i64 c)) db hb gb ib u uc uv R x cs pl (ct.set i c) vs ∧ Step (dcFoot db hb gb ib u uc uv R) w (dcFoot db hb gb ib u uc uv R) (w.setCell ⟨g, i, none⟩ (.int .i64 c)) := by
  have hO : Only [g] w (w.setCell ⟨g, i, none⟩ (.int .i64 c)) := (Only.refl _ _).setCell (by simp) _
  obtain ⟨q1, q2, q3, q4⟩ := h.a2 g hg
  refine ⟨⟨h.head.only hO (by simpa using q1.symm), h.rf.only hO (fun k hk hm => q2 (by simp at hm; rwa [← hm])), ?_, owns_only h.rows hO (fun k hk hm => q3 (by simp at hm; rw [hk, hm])), fun j b n l h1 h2 => ?_, by simpa using h.lens, h.slots, h.may, h.a1, h.a2, h.a3, h.a4, h.a5⟩, Step.same (hO.more fun k hk => Or.inl (mem_dcFoot.2 (by simp at hk; simp [hk, hg])))⟩
  · have := owns_set (show w.ownsRow 0 3 1 uc ct.length (vals ct) from h.cts) hg i (.int .i64 c)
    rw [vals_set] at this
    show World.ownsRow _ 0 3 1 uc (ct.set i c).length _
    rw [List.length_set]
    exact this
  · obtain ⟨e, hB⟩ := h.row j b n l h1 h2
    exact ⟨e, hB.only hO (fun hm => q4 (by simp at hm; rw [← hm]; exact List.mem_map.2 ⟨(b, n), List.mem_of_getElem? h1, rfl⟩))⟩
theorem DcIn.putV (h : DcIn w db hb gb ib u uc uv R x cs pl ct vs) {i j g n : Nat} {l : List Vl} (hr : R[i]? = some (g, n)) (hv : vs[i]? = some l) (hj : j < l.length) (y : Vl) {w2 : World} (e2 : w2 = (w.setCell ⟨g, j * 2, none⟩ (.int .i64 y.k)).setCell ⟨g, j * 2 + 1, none⟩ (.int .u64 y.n)) :
    DcIn w2 db hb gb ib u uc uv R x cs pl ct (vs.set i (l.set j y)) ∧ Step (dcFoot db hb gb ib u uc uv R) w (dcFoot db hb gb ib u uc uv R) w2 := by
  subst e2
  have hO : Only [g] w ((w.setCell ⟨g, j * 2, none⟩ (.int .i64 y.k)).setCell ⟨g, j * 2 + 1, none⟩ (.int .u64 y.n)) := ((Only.refl _ _).setCell (by simp) _).setCell (by simp) _
  have hgm : g ∈ R.map Prod.fst := List.mem_map.2 ⟨(g, n), List.mem_of_getElem? hr, rfl⟩
  obtain ⟨q1, q2⟩ := h.a4 g hgm
  have hil : i < vs.length := (List.getElem?_eq_some_iff.1 hv).1
  refine ⟨⟨h.head.only hO (by simpa using q1.symm), h.rf.only hO (fun k hk hm => q2 (by simp at hm; rwa [← hm])), h.cts.only hO (fun k hk hm => (h.a2 k hk).2.2.2 (by simp at hm; rw [hm]; exact hgm)), owns_only h.rows hO (fun k hk hm => (h.a3 k hk).2.2 (by simp at hm; rw [hm]; exact hgm)), fun i' b n' l' h1 h2 => ?_, by simpa using h.lens, fun i' l' h2 => ?_, h.may, h.a1, h.a2, h.a3, h.a4, h.a5⟩, Step.same (hO.more fun k hk => Or.inl (mem_dcFoot.2 (by simp at hk; subst hk; exact Or.inr (Or.inr (Or.inr (Or.inr hgm))))))⟩
  · rw [set_any] at h2
    by_cases e : i = i'
    · subst e
      rw [if_pos rfl, if_pos hil] at h2
      obtain rfl := Option.some.inj h2
      rw [hr] at h1
      obtain ⟨rfl, rfl⟩ : g = b ∧ n = n' := by simpa using h1
      obtain ⟨en, hB⟩ := h.row i g n l hr hv
      refine ⟨by simpa using en, ?_⟩
      obtain ⟨y', hy'⟩ : ∃ y', l[j]? = some y' := ⟨_, List.getElem?_eq_getElem hj⟩
      have s1 := flat_set Vl.cells_len l j 0 y' ⟨y.k, y'.n⟩ (.int .i64 y.k) hy' rfl (by omega)
      have s2 := flat_set Vl.cells_len (l.set j ⟨y.k, y'.n⟩) j 1 ⟨y.k, y'.n⟩ y (.int .u64 y.n) (by rw [set_any, if_pos rfl, if_pos hj]) rfl (by omega)
      have := (hB.set (j * 2) (.int .i64 y.k)).set (j * 2 + 1) (.int .u64 y.n)
      rw [show j * 2 = j * 2 + 0 from rfl, s1, s2, List.set_set] at this
      exact this
    · rw [if_neg e] at h2
      obtain ⟨en, hB⟩ := h.row i' b n' l' h1 h2
      refine ⟨en, hB.only hO (fun hm => e ?_)⟩
      have hbg : b = g := by simpa using hm
      subst hbg
      have n1 : (R.map Prod.fst)[i]? = some b := by rw [List.getElem?_map, hr]; rfl
      have n2 : (R.map Prod.fst)[i']? = some b := by rw [List.getElem?_map, h1]; rfl
      have b1 := (List.getElem?_eq_some_iff.1 n1)
      have b2 := (List.getElem?_eq_some_iff.1 n2)
      exact (List.getElem_inj (h₀ := b1.1) (h₁ := b2.1) h.a5).1 (b1.2.trans b2.2.symm)
  · rw [set_any] at h2
    by_cases e : i = i'
    · subst e
      rw [if_pos rfl, if_pos hil] at h2
      obtain rfl := Option.some.inj h2
      simpa using h.slots i l hv
    · rw [if_neg e] at h2
      exact h.slots i' l' h2
set_option maxRecDepth 100000 in
set_option maxHeartbeats 800000 in
theorem cntD_any (n c : Int) (h : DcIn w db hb gb ib u uc uv R x cs pl ct vs) :
    Calls Tryd.prog 43 #[.pointer (some ⟨db, 0, none⟩), .int .i64 n, .int .i64 c] w fun e w' => e = .returned (.int .i64 (scE cs n c)) ∧ DcIn w' db hb gb ib u uc uv R x cs pl (scC cs ct n c) vs ∧ Step (dcFoot db hb gb ib u uc uv R) w (dcFoot db hb gb ib u uc uv R) w' := by
  obtain ⟨l1, l2, l3, l4⟩ := h.lens
  have hs := h.small
  obtain ⟨A, cap, huv, q1, q2⟩ := h.vform
  obtain ⟨c0, c1, c2⟩ := h.cells
  rw [huv] at c2
  have HH := Lib.hid h
  cases hbn : inN n x.n
  · obtain ⟨e1, e2⟩ := sc_out (ct := ct) (c := c) l1 hbn
    rw [e1, e2]
    have ho := inN_out hbn
    clear h hbn e1 e2 l1 l2 l3 l4 huv c0 c1
    by_cases hneg : n < 0
    · clear ho
      go_enter Tryd.func43, Tryd.ntmps43
      go_wp2
      go_ret
      exact ⟨rfl, HH.out, Step.same (Only.refl _ _)⟩
    · have hge : (x.n : Int) ≤ n := by omega
      clear ho
      go_enter Tryd.func43, Tryd.ntmps43
      go_wp2
      go_ret
      exact ⟨rfl, HH.out, Step.same (Only.refl _ _)⟩
  · have hin := inN_in hbn
    obtain ⟨i, rfl⟩ : ∃ i : Nat, n = i := ⟨n.toNat, by omega⟩
    have hi : i < x.n := by omega
    cases hc : decide (0 ≤ c ∧ c ≤ 2147483647)
    · obtain ⟨e1, e2⟩ := sc_bad (cs := cs) (ct := ct) (n := i) hc
      rw [e1, e2]
      have hc' := of_decide_eq_false hc
      clear h hbn e1 e2 l1 l2 l3 l4 huv c0 c1 hc hin
      by_cases hneg : c < 0
      · clear hc'
        go_enter Tryd.func43, Tryd.ntmps43
        go_wp2
        go_ret
        exact ⟨rfl, HH.out, Step.same (Only.refl _ _)⟩
      · have hge : 2147483647 < c := by omega
        clear hc'
        go_enter Tryd.func43, Tryd.ntmps43
        go_wp2
        go_ret
        exact ⟨rfl, HH.out, Step.same (Only.refl _ _)⟩
    · obtain ⟨hc0, hc1⟩ := of_decide_eq_true hc
      have htk := rtaken_is cs i
      have HRF := Lib.hid h.rf
      cases ht : takenZ cs i
      · obtain ⟨e1, e2⟩ := sc_none (ct := ct) l1 hbn hc ht
        rw [e1, e2]
        rw [ht] at htk
        clear h hbn e1 e2 l1 l2 l3 l4 huv c1 hc hin
        go_enter Tryd.func43, Tryd.ntmps43
        go_wp2_with (go_at_call 51; refine (rtaken_any _ HRF.out).mono ?_; rw [htk]; rintro e w3 ⟨rfl, rfl⟩)
        go_ret
        exact ⟨rfl, HH.out, Step.same (Only.refl _ _)⟩
      · obtain ⟨e1, e2⟩ := sc_yes (ct := ct) l1 hbn hc ht
        rw [e1, e2]
        rw [ht] at htk
        obtain ⟨cbk, ccap, c', huc, q3, q4, hob, _, hcc, hcf⟩ := h.cat hi
        have HP := Lib.hid (h.putC hob i c)
        rw [huc] at c1
        rw [show ((i : Int)).toNat = i from rfl]
        clear h hbn e1 e2 l1 l2 l3 l4 huv huc hob hc hin
        go_enter Tryd.func43, Tryd.ntmps43
        go_wp2_with (go_at_call 51; refine (rtaken_any _ HRF.out).mono ?_; rw [htk]; rintro e w3 ⟨rfl, rfl⟩)
        go_ret
        exact ⟨rfl, HP.out⟩
end
end Go.Proofs.YtplneoapcadlnaaDoor
