/- Cells: SetCount, Get, Set. -/
import Derived.Test.YtplneoapcadlnaaDoorCellD
namespace Go.Proofs.YtplneoapcadlnaaDoor
open Go.RowKit
attribute [local go_sem ↓] Go.wp_at_zero Go.wp_at_succ

theorem sc_out {x : Sh} {cs : List St} {ct : List Int} (h1 : cs.length = x.n) {n c : Int} (h : inN n x.n = false) : scE cs n c = 1 ∧ scC cs ct n c = ct := by simp [scE, scC, h1, h]
theorem sc_bad {cs : List St} {ct : List Int} {n c : Int} (h : decide (0 ≤ c ∧ c ≤ 2147483647) = false) : scE cs n c = 1 ∧ scC cs ct n c = ct := by simp [scE, scC, h]
theorem sc_none {x : Sh} {cs : List St} {ct : List Int} (h1 : cs.length = x.n) {n c : Int} (h : inN n x.n = true) (hc : decide (0 ≤ c ∧ c ≤ 2147483647) = true) (ht : takenZ cs n = false) : scE cs n c = 9 ∧ scC cs ct n c = ct := by simp [scE, scC, h1, h, hc, ht]
theorem sc_yes {x : Sh} {cs : List St} {ct : List Int} (h1 : cs.length = x.n) {n c : Int} (h : inN n x.n = true) (hc : decide (0 ≤ c ∧ c ≤ 2147483647) = true) (ht : takenZ cs n = true) : scE cs n c = 0 ∧ scC cs ct n c = ct.set n.toNat c := by simp [scE, scC, h1, h, hc, ht]
theorem vl_back {y : Vl} (h : y.ok) : Wd.u64ok y.w ∧ Wd.decK y.w = y.k ∧ Wd.decN y.w = y.n := by
  obtain ⟨k, n⟩ := y
  obtain ⟨h0, hr⟩ := h
  simp only at h0 hr
  unfold Vl.w
  simp only
  rcases Wd.sort4 k n with ⟨rfl, rfl⟩ | ⟨rfl, hn⟩ | ⟨rfl, hn⟩ | ⟨a, b, c⟩
  · exact ⟨by unfold Wd.u64ok; decide, rfl, rfl⟩
  · obtain ⟨e1, e2, e3⟩ := Wd.at_dat hn
    have e : Wd.encV 1 n = 2 * n + 1 := by simp [Wd.encV, e1, e2]
    rw [e]
    unfold Wd.u64ok Wd.decK Wd.decN
    refine ⟨by omega, ?_, ?_⟩
    · rw [if_neg (by omega), if_pos (by omega)]
    · rw [if_neg (by omega), if_pos (by omega)]; omega
  · obtain ⟨e1, e2, e3⟩ := Wd.at_ptr hn
    have e : Wd.encV 2 n = 2 * n + 2 := by simp [Wd.encV, e1, e2, e3]
    rw [e]
    unfold Wd.u64ok Wd.decK Wd.decN
    refine ⟨by omega, ?_, ?_⟩
    · rw [if_neg (by omega), if_neg (by omega)]
    · rw [if_neg (by omega), if_neg (by omega)]; omega
  · simp [Wd.rightB, a, b, c] at hr
theorem gt_err {x : Sh} {cs : List St} {vs : List (List Vl)} {n k : Int} (h : plE x cs n k ≠ 0) : gtV x cs vs n k = Vl.nil := by simp [gtV, h]
theorem gt_yes {x : Sh} {cs : List St} {vs : List (List Vl)} {i k : Nat} {l : List Vl} {y : Vl} (h : plE x cs i k = 0) (hl : vs[i]? = some l) (hy : l[k]? = some y) : gtV x cs vs i k = y := by simp [gtV, h, vlAt, hl, hy]
theorem pl_cases (x : Sh) (bs : Nat) (cs : List St) (n k : Int) : ((plE x cs n k == 0) = false ∧ plV x bs cs n k = 0) ∨ (plE x cs n k = 0 ∧ ∃ i j : Nat, n = i ∧ k = j ∧ i < x.n ∧ j < x.sl i ∧ takenZ cs i = true ∧ plV x bs cs n k = (bs : Int) + x.at_ i + 1 + j) := by
  cases hS : inS x n k
  · obtain ⟨e1, e2⟩ := pl_out (bs := bs) (cs := cs) hS
    exact Or.inl ⟨by rw [e1]; rfl, e2⟩
  · cases ht : takenZ cs n
    · obtain ⟨e1, e2⟩ := pl_none (bs := bs) hS ht
      exact Or.inl ⟨by rw [e1]; rfl, e2⟩
    · obtain ⟨e1, e2⟩ := pl_yes (bs := bs) hS ht
      obtain ⟨i, j, rfl, rfl, hi, hj⟩ := inS_at hS
      exact Or.inr ⟨e1, i, j, rfl, rfl, hi, hj, ht, e2⟩

section
variable {w w1 : World} {kb fb cb ab ac bs : Nat} {v : Nat → Value} {x : Sh} {cs : List St} {p : Nat → List Int} {L : List Int} {t t1 : Int} {ct : List Int} {vs : List (List Vl)} {L0 : List Int}
set_option maxRecDepth 100000 in
set_option maxHeartbeats 800000 in
theorem cntC_any (n c : Int) (h : CeIn w kb fb cb v ab ac x bs cs p L t) (hr : RepTo x.n x bs L0 cs ct vs L) (hi : Inv x cs p) (hn : n ≤ 9223372036854775807) :
    Calls Tryd.prog 27 #[.pointer (some ⟨kb, 0, none⟩), .int .i64 n, .int .i64 c] w fun e w' => e = .returned (.int .i64 (scE cs n c)) ∧ ∃ t' L', CeIn w' kb fb cb v ab ac x bs cs p L' t' ∧ RepTo x.n x bs L0 cs (scC cs ct n c) vs L' ∧ Only [ab, ac] w w' := by
  obtain ⟨l1, l2, l3⟩ := hr.len
  cases hb : inN n x.n
  · obtain ⟨e1, e2⟩ := sc_out (ct := ct) (c := c) l1 hb
    rw [e1, e2]
    have HR := Lib.hid hr
    clear e1 e2 hr hi
    go_enter Tryd.func27, Tryd.ntmps27
    go_wp2_with (go_at_call 47; refine (hasC_any n h hn).mono ?_; rw [hb]; rintro e w1 ⟨rfl, hb1⟩)
    go_ret
    exact ⟨rfl, _, _, h.more hb1, HR.out, Only.of_below hb1⟩
  · have hin := inN_in hb
    obtain ⟨i, rfl⟩ : ∃ i : Nat, n = i := ⟨n.toNat, by omega⟩
    have hil : i < x.n := by omega
    obtain ⟨z, hz⟩ : ∃ z, cs[i]? = some z := ⟨_, List.getElem?_eq_getElem (by omega)⟩
    have hzi := hi.cell i z hz
    have hg := genZ_at hz
    have hR := hdr_right (g := z.g) (c := c) (by omega)
    have HR := Lib.hid hr
    have HI := Lib.hid hi
    cases hc : decide (0 ≤ c ∧ c ≤ 2147483647)
    · obtain ⟨e1, e2⟩ := sc_bad (cs := cs) (ct := ct) (n := i) hc
      obtain ⟨k1, k2⟩ := hdr_no (u := true) (hR.trans hc)
      rw [e1, e2]
      clear e1 e2 hr hi hc hR hzi
      go_enter Tryd.func27, Tryd.ntmps27
      go_wp2_with (first
        | (go_at_call 47; refine (hasC_any i h hn).mono ?_; rw [hb]; rintro e w1 ⟨rfl, hb1⟩; have h1 := h.more hb1; have c0 := h1.cells.1)
        | (go_at_call 67; refine (gen_any _ h1.fr).mono ?_; rw [hg]; rintro e w3 ⟨rfl, rfl⟩)
        | (go_at_call 66; refine (Hd.encode_any z.g c true _).mono ?_; rw [k1, k2]; rintro e w4 ⟨rfl, hb4⟩))
      go_ret
      exact ⟨rfl, _, _, h1.more hb4, HR.out, Only.of_below (below_more hb1 hb4)⟩
    · have hcc : 0 ≤ c ∧ c ≤ 2147483647 := of_decide_eq_true hc
      obtain ⟨k1, k2⟩ := hdr_ok (u := true) (hR.trans hc)
      have htk := takenZ_at hz
      cases ht : z.t
      · obtain ⟨e1, e2⟩ := sc_none (ct := ct) l1 hb hc (htk.trans ht)
        rw [ht] at htk
        rw [e1, e2]
        clear e1 e2 hr hi hc hR hzi hcc
        go_enter Tryd.func27, Tryd.ntmps27
        go_wp2_with (first
          | (go_at_call 47; refine (hasC_any i h hn).mono ?_; rw [hb]; rintro e w1 ⟨rfl, hb1⟩; have h1 := h.more hb1; have c0 := h1.cells.1)
          | (go_at_call 67; refine (gen_any _ h1.fr).mono ?_; rw [hg]; rintro e w3 ⟨rfl, rfl⟩)
          | (go_at_call 66; refine (Hd.encode_any z.g c true _).mono ?_; rw [k1, k2]; rintro e w4 ⟨rfl, hb4⟩; have h4 := h1.more hb4; have c0' := h4.cells.1)
          | (go_at_call 52; refine (taken_any _ h4.fr).mono ?_; rw [htk]; rintro e w3 ⟨rfl, rfl⟩))
        go_ret
        exact ⟨rfl, _, _, h4, HR.out, Only.of_below (below_more hb1 hb4)⟩
      · obtain ⟨e1, e2⟩ := sc_yes (ct := ct) l1 hb hc (htk.trans ht)
        rw [e1, e2]
        have hcnt := hr.count hz ht c hcc
        rw [ht] at htk hcnt
        rw [show ((i : Int)).toNat = i from rfl]
        have HC := Lib.hid hcnt
        have hq : bs + x.at_ i < L.length := by have := Sh.at_in h.may hil; have := h.fit; omega
        have hb70 := h.small
        have HQ := Lib.hid hq
        generalize Hd.encZ z.g c true = E at *
        clear e1 e2 hr hi hc hR hzi hcc hcnt hq
        go_enter Tryd.func27, Tryd.ntmps27
        go_wp2_with (first
          | (go_at_call 47; refine (hasC_any i h hn).mono ?_; rw [hb]; rintro e w1 ⟨rfl, hb1⟩; have h1 := h.more hb1; have c0 := h1.cells.1)
          | (go_at_call 67; refine (gen_any _ h1.fr).mono ?_; rw [hg]; rintro e w3 ⟨rfl, rfl⟩)
          | (go_at_call 66; refine (Hd.encode_any z.g c true _).mono ?_; rw [k1, k2]; rintro e w4 ⟨rfl, hb4⟩; have h4 := h1.more hb4; have c0' := h4.cells.1)
          | (go_at_call 52; refine (taken_any _ h4.fr).mono ?_; rw [htk]; rintro e w3 ⟨rfl, rfl⟩))
        have hO4 : Only [ab, ac] w w4 := Only.of_below (below_more hb1 hb4)
        have c1 := h4.cells.2.1
        clear hb1 hb4 h1 h c0 c0'
        go_region_held3 (fun W => W.cell? ⟨kb, 1, none⟩ = some (.pointer (some ⟨ab, 0, none⟩))) (first | exact c1 | exact (CeIn.cells (by assumption)).2.1)
          (first
            | (go_at_call 48; refine (atC_any i h4.drew hil).mono ?_; rintro e w5 ⟨rfl, hb5⟩; have h5 := h4.drew.more hb5)
            | (go_at_call 28; refine (writeC_any _ (bs + x.at_ i) E (by omega) h5 HQ.out).mono ?_; rintro e w6 ⟨rfl, t6, h6, hO6⟩))
        go_wp2_with fail
        go_ret
        exact ⟨rfl, _, _, h6, HC.out, (hO4.trans (Only.of_below (S := [ab, ac]) (from_drew hb5)) (by simp)).trans hO6 (by simp)⟩

set_option maxRecDepth 100000 in
set_option maxHeartbeats 800000 in
theorem getC_any (n k : Int) (h : CeIn w kb fb cb v ab ac x bs cs p L t) (hr : RepTo x.n x bs L0 cs ct vs L) (hn : n ≤ 9223372036854775807) :
    Calls Tryd.prog 25 #[.pointer (some ⟨kb, 0, none⟩), .int .i64 n, .int .i64 k] w fun e w' => e = .returned (.tuple #[Wd.val (gtV x cs vs n k).k (gtV x cs vs n k).n, .int .i64 (plE x cs n k)]) ∧ ∃ t', CeIn w' kb fb cb v ab ac x bs cs p L t' ∧ Only [ab, ac] w w' := by
  have hb0 : Below w.heap.size w (w.alloc (.cells #[.int .i64 0, .int .u64 0] 43)) := (Below.refl _ _).alloc (Nat.le_refl _) _
  have hZ0 : Blk (w.alloc (.cells #[.int .i64 0, .int .u64 0] 43)) w.heap.size 43 [.int .i64 0, .int .u64 0] := Blk.new w _ _
  have h0 := h.more hb0
  have HH := Lib.hid h
  have hlt := h.foot_lt
  rcases pl_cases x bs cs n k with ⟨he, hv⟩ | ⟨he, i, j, rfl, rfl, hi, hj, ht, hv⟩
  · rw [gt_err (fun e => by rw [e] at he; cases he)]
    generalize hE : plE x cs n k = E at *
    have HE := Lib.hid hE
    clear hE
    unfold Wd.val Vl.nil
    clear h hr
    go_enter Tryd.func25, Tryd.ntmps25
    go_wp2_with fail
    refine (placeC_any n k h0 hn).mono ?_
    rw [hv, HE.out]
    rintro e w1 ⟨rfl, hb1⟩
    have h1 := h0.more hb1
    have hZ := hZ0.below hb1 hZ0.lt
    have hO : Only [ab, ac] w w1 := Only.of_below (below_more hb0 hb1)
    have f0 := hZ.free 0
    have f1 := hZ.free 1
    have z0 := hZ.cell (i := 0) rfl
    have z1 := hZ.cell (i := 1) rfl
    have HR := Lib.hid (fun a b => HH.out.res h1 hO (only_res2 w1 w.heap.size a b))
    have HZ := Lib.hid hZ
    have he' : (E != 0) = true := by simp [bne, he]
    clear hb1 h1 hZ hO hZ0 h0 hb0 hlt
    go_wp2_with fail
    refine bodyPost_ret (res_cell_tmp rfl _ _ w.heap.size 43 _ (0, 0) _ _ rfl rfl ((HZ.out.set 0 _).set 1 _) Tryd.underlying43 rfl (by kernel_rfl)) rfl ?_
    exact ⟨rfl, _, HR.out _ _⟩
  · obtain ⟨l1, l2, l3⟩ := hr.len
    obtain ⟨l, hl⟩ : ∃ l, vs[i]? = some l := ⟨_, List.getElem?_eq_getElem (by omega)⟩
    have hls := hr.slots i l hl
    obtain ⟨y, hy⟩ : ∃ y, l[j]? = some y := ⟨_, List.getElem?_eq_getElem (by omega)⟩
    have hok := hr.vok i l hl y (List.mem_of_getElem? hy)
    obtain ⟨b1, b2, b3⟩ := vl_back hok
    have hL := hr.slot i l j y hi hl hy
    have hq1 := (List.getElem?_eq_some_iff.1 hL).1
    have hval : L[bs + x.at_ i + 1 + j]?.getD 0 = y.w := by rw [hL]; rfl
    rw [gt_yes he hl hy, he]
    have HPL := Lib.hid he
    have HPV := Lib.hid hv
    generalize y.w = E at *
    have HV := Lib.hid hval
    have HE := Lib.hid b1
    have HQ := Lib.hid hq1
    clear hval b1 hq1 hL hok hls hl hy l1 l2 l3 hr he hv ht h
    unfold Wd.val
    go_enter Tryd.func25, Tryd.ntmps25
    go_wp2_with fail
    refine (placeC_any i j h0 hn).mono ?_
    rw [HPV.out, HPL.out]
    rintro e w1 ⟨rfl, hb1⟩
    have h1 := h0.more hb1
    have hZ1 := hZ0.below hb1 hZ0.lt
    have hO1 : Only [ab, ac] w w1 := Only.of_below (below_more hb0 hb1)
    have c1 := h1.cells.2.1
    clear hb1 hZ0 h0 hb0
    go_wp2_with fail
    refine (readC_any _ (bs + x.at_ i + 1 + j) (by omega) h1 HQ.out).mono ?_
    rw [HV.out]
    rintro e w6 ⟨rfl, t6, h6, hO6⟩
    have hO6' : Only [ab, ac] w w6 := hO1.trans hO6 (by simp)
    have hZ6 : Blk w6 w.heap.size 43 _ := hZ1.only hO6 (by have q1 := hlt ab (mem_ceFoot.2 (by simp)); have q2 := hlt ac (mem_ceFoot.2 (by simp)); simp; omega)
    clear hO6 hO1 h1 hZ1 c1
    go_wp2_with fail
    refine (Wd.decode_any _ _ HE.out).mono ?_
    unfold Wd.val
    rw [b2, b3]
    rintro e w7 ⟨rfl, hb7⟩
    have hZ := hZ6.below hb7 hZ6.lt
    have f0 := hZ.free 0
    have f1 := hZ.free 1
    have z0 := hZ.cell (i := 0) rfl
    have z1 := hZ.cell (i := 1) rfl
    have h7 := h6.more hb7
    have hO7 : Only [ab, ac] w w7 := hO6'.trans (Only.of_below (S := [ab, ac]) hb7) (by simp)
    have HR := Lib.hid (fun a b => HH.out.res h7 hO7 (only_res2 w7 w.heap.size a b))
    have HZ := Lib.hid hZ
    clear hb7 h6 h7 hZ hZ6 hO7 hO6' hlt
    go_wp2_with fail
    refine bodyPost_ret (res_cell_tmp rfl _ _ w.heap.size 43 _ (0, 0) _ _ rfl rfl ((HZ.out.set 0 _).set 1 _) Tryd.underlying43 rfl (by kernel_rfl)) rfl ?_
    exact ⟨rfl, _, HR.out _ _⟩
end
end Go.Proofs.YtplneoapcadlnaaDoor
