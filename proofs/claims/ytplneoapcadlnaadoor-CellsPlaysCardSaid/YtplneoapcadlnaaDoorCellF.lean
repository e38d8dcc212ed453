/- Cells: Set, Live, Room; nil cells. -/
import Derived.Test.YtplneoapcadlnaaDoorCellE
namespace Go.Proofs.YtplneoapcadlnaaDoor
open Go.RowKit
attribute [local go_sem ↓] Go.wp_at_zero Go.wp_at_succ

theorem st_bad {x : Sh} {cs : List St} {vs : List (List Vl)} {n k : Int} {y : Vl} (h : Wd.rightB y.k y.n = false) : stE x cs n k y = 1 ∧ stV x cs vs n k y = vs := by simp [stE, stV, h]
theorem st_err {x : Sh} {cs : List St} {vs : List (List Vl)} {n k : Int} {y : Vl} (h : Wd.rightB y.k y.n = true) (he : (plE x cs n k == 0) = false) : stE x cs n k y = plE x cs n k ∧ stV x cs vs n k y = vs := by
  have : ¬ plE x cs n k = 0 := fun e => by rw [e] at he; cases he
  simp [stE, stV, h, this]
theorem st_yes {x : Sh} {cs : List St} {vs : List (List Vl)} {i j : Nat} {y : Vl} {l : List Vl} (h : Wd.rightB y.k y.n = true) (he : plE x cs i j = 0) (hl : vs[i]? = some l) : stE x cs i j y = 0 ∧ stV x cs vs i j y = vs.set i (l.set j y) := by simp [stE, stV, h, he, hl]
def liveTo (cs : List St) : Nat → List Int
  | 0 => []
  | j + 1 => liveTo cs j ++ (if (cs[j]?.map St.t).getD false = true then [(j : Int)] else [])
theorem live_len (cs : List St) : ∀ j, (liveTo cs j).length ≤ j
  | 0 => by simp [liveTo]
  | j + 1 => by
    have := live_len cs j
    simp only [liveTo, List.length_append]
    split <;> simp <;> omega
theorem live_yes {cs : List St} {j : Nat} {z : St} (hz : cs[j]? = some z) (ht : z.t = true) : liveTo cs (j + 1) = liveTo cs j ++ [(j : Int)] := by simp [liveTo, hz, ht]
theorem live_no {cs : List St} {j : Nat} {z : St} (hz : cs[j]? = some z) (ht : z.t = false) : liveTo cs (j + 1) = liveTo cs j := by simp [liveTo, hz, ht]

section
variable {w w1 : World} {kb fb cb ab ac bs : Nat} {v : Nat → Value} {x : Sh} {cs : List St} {p : Nat → List Int} {L : List Int} {t t1 : Int} {ct : List Int} {vs : List (List Vl)} {L0 : List Int}
set_option maxRecDepth 100000 in
set_option maxHeartbeats 800000 in
theorem setC_any (n k : Int) (y : Vl) (h : CeIn w kb fb cb v ab ac x bs cs p L t) (hr : RepTo x.n x bs L0 cs ct vs L) (hn : n ≤ 9223372036854775807) (hy : 0 ≤ y.n) :
    Calls Tryd.prog 26 #[.pointer (some ⟨kb, 0, none⟩), .int .i64 n, .int .i64 k, Wd.val y.k y.n] w fun e w' => e = .returned (.int .i64 (stE x cs n k y)) ∧ ∃ t' L', CeIn w' kb fb cb v ab ac x bs cs p L' t' ∧ RepTo x.n x bs L0 cs ct (stV x cs vs n k y) L' ∧ Only [ab, ac] w w' := by
  have hb0 : Below w.heap.size w (w.alloc (.cells #[.int .i64 y.k, .int .u64 y.n] 43)) := (Below.refl _ _).alloc (Nat.le_refl _) _
  have h0 := h.more hb0
  have hE := fun W => Wd.encode_any y.k y.n W hy
  unfold Wd.val at *
  cases hb : Wd.rightB y.k y.n
  · obtain ⟨e1, e2⟩ := st_bad (x := x) (cs := cs) (vs := vs) (n := n) (k := k) hb
    rw [e1, e2]
    have hE2 : Wd.encE y.k y.n = 1 := by simp [Wd.encE, hb]
    clear e1 e2
    go_enter Tryd.func26, Tryd.ntmps26
    go_wp2_with (go_at_call 65; refine (hE _).mono ?_; rw [hE2]; rintro e w1 ⟨rfl, hb1⟩)
    go_ret
    exact ⟨rfl, _, _, h0.more hb1, hr, Only.of_below (below_more hb0 hb1)⟩
  · have hE2 : Wd.encE y.k y.n = 0 := by simp [Wd.encE, hb]
    rcases pl_cases x bs cs n k with ⟨he, hv⟩ | ⟨he, i, j, rfl, rfl, hi, hj, ht, hv⟩
    · obtain ⟨e1, e2⟩ := st_err (vs := vs) hb he
      rw [e1, e2]
      clear e1 e2
      generalize hEE : plE x cs n k = E at *
      have HEE := Lib.hid hEE
      have he' : (E != 0) = true := by simp [bne, he]
      clear hEE
      go_enter Tryd.func26, Tryd.ntmps26
      go_wp2_with (first
        | (go_at_call 65; refine (hE _).mono ?_; rw [hE2]; rintro e w1 ⟨rfl, hb1⟩; have h1 := h0.more hb1)
        | (go_at_call 63; refine (placeC_any n k h1 hn).mono ?_; rw [hv, HEE.out]; rintro e w2 ⟨rfl, hb2⟩))
      go_ret
      exact ⟨rfl, _, _, h1.more hb2, hr, Only.of_below (below_more (below_more hb0 hb1) hb2)⟩
    · obtain ⟨l1, l2, l3⟩ := hr.len
      obtain ⟨l, hl⟩ : ∃ l, vs[i]? = some l := ⟨_, List.getElem?_eq_getElem (by omega)⟩
      have hls := hr.slots i l hl
      obtain ⟨z, hz⟩ : ∃ z, cs[i]? = some z := ⟨_, List.getElem?_eq_getElem (by omega)⟩
      have hzt : z.t = true := (takenZ_at hz).symm.trans ht
      have hval := hr.value hz hzt hl (show j < l.length by omega) y ⟨hy, hb⟩
      obtain ⟨e1, e2⟩ := st_yes hb he hl
      rw [e1, e2]
      have hq1 : bs + x.at_ i + 1 + j < L.length := by have := Sh.at_in h.may hi; have := h.fit; omega
      have HVAL := Lib.hid hval
      have HPL := Lib.hid he
      have HPV := Lib.hid hv
      have HQ := Lib.hid hq1
      have HE1 := Lib.hid (show Wd.encV y.k y.n = y.w from rfl)
      generalize y.w = E at *
      clear hval he hv hq1 e1 e2 hls hl hz hzt ht l1 l2 l3 hr
      go_enter Tryd.func26, Tryd.ntmps26
      go_wp2_with (first
        | (go_at_call 65; refine (hE _).mono ?_; rw [hE2, HE1.out]; rintro e w1 ⟨rfl, hb1⟩; have h1 := h0.more hb1)
        | (go_at_call 63; refine (placeC_any i j h1 hn).mono ?_; rw [HPV.out, HPL.out]; rintro e w2 ⟨rfl, hb2⟩; have h2 := h1.more hb2; have c1 := h2.cells.2.1)
        | (go_at_call 28; refine (writeC_any _ (bs + x.at_ i + 1 + j) E (by omega) h2 HQ.out).mono ?_; rintro e w3 ⟨rfl, t3, h3, hO3⟩))
      go_ret
      exact ⟨rfl, _, _, h3, HVAL.out, (Only.of_below (below_more (below_more hb0 hb1) hb2)).trans hO3 (by simp)⟩

set_option maxRecDepth 100000 in
set_option maxHeartbeats 800000 in
theorem liveC_any (h : CeIn w kb fb cb v ab ac x bs cs p L t) :
    Calls Tryd.prog 15 #[.pointer (some ⟨kb, 0, none⟩)] w fun e w' =>
      ∃ u, e = .returned u ∧ w'.ownsRow w.heap.size 3 1 u (liveTo cs cs.length).length (vals (liveTo cs cs.length)) ∧ Below w.heap.size w w' := by
  obtain ⟨i0, hi0, hz0, hz1, hz2⟩ := info_parts Tryd.infoInt
  obtain ⟨_, _, _, c3, c4, c5, c6, c7⟩ := h.cells
  have hlen := h.len
  have hn := h.small.2.2
  have HC := Lib.hid (show countZ x.a x.b x.c x.q x.s = ((cs.length : Nat) : Int) by rw [hlen]; exact (x.count h.may).1)
  have HF := Lib.hid h
  have hcl : cs.length ≤ 192 := by omega
  clear hlen h
  go_enter Tryd.func15, Tryd.ntmps15
  go_wp2_with (go_at_call 34; refine (count_any _ _ _ _ _ _).mono ?_; rw [HC.out]; rintro e w0 ⟨rfl, hb0⟩)
  have HB0 := Lib.hid hb0
  have hsz0 := hb0.size
  clear hb0 c3 c4 c5 c6 c7
  go_loopw [3, 12] (fun u i wr => ∃ j : Nat, j ≤ cs.length ∧ i = .int .i64 j ∧ wr.ownsRow w.heap.size 3 1 u (liveTo cs j).length (vals (liveTo cs j)) ∧ Below w.heap.size w wr) (fun _ i _ => cs.length - (intOf i).toNat)
  case atStart => exact ⟨0, by omega, rfl, World.ownsRow_nil _ _ _ _, HB0.out⟩
  case round =>
    obtain ⟨j, hj, rfl, hown, hbr⟩ := hrel
    have hF := HF.out.more hbr
    by_cases hlt : j < cs.length
    · obtain ⟨z, hz⟩ : ∃ z, cs[j]? = some z := ⟨_, List.getElem?_eq_getElem hlt⟩
      have htk := takenZ_at hz
      have c0 := hF.cells.1
      have HFR := Lib.hid hF.fr
      have hw := live_len cs j
      cases ht : z.t
      · have HW := Lib.hid (live_no hz ht)
        rw [ht] at htk
        clear hz
        go_wp2_with (go_at_call 52; refine (taken_any _ HFR.out).mono ?_; rw [htk]; rintro e w3 ⟨rfl, rfl⟩)
        go_roundw
        case rel => exact ⟨j + 1, by omega, by go_num, by rw [HW.out]; exact hown, hbr⟩
        case measure => simp [intOf]; omega
      · have HW := Lib.hid (live_yes hz ht)
        rw [ht] at htk
        have HO := Lib.hid hown
        have HB := Lib.hid hbr
        have hsz := hbr.size
        clear hown hbr hF hz
        go_wp2_with (first
          | (go_at_call 52; refine (taken_any _ HFR.out).mono ?_; rw [htk]; rintro e w3 ⟨rfl, rfl⟩)
          | (at_builtin; refine wpList_append_own _ rfl _ _ 51 rfl w.heap.size 3 i0 (.int .i64 0) 1 8 Tryd.underlying51 hi0 hz0 hz1 hz2 rfl (by decide) _ _ _ rfl (HO.out.alloc _) ⟨wr.heap.size, 0, none⟩ 1 1 [.int .i64 (j : Int)] rfl rfl ?c1 ?c2 ?c3 ?c4 ?c5 ?_))
        case c1 =>
          intro q u hq
          match q, hq with
          | 0, hq => simp at hq; subst hq; simp [Addr.add]
        case c2 => intro u hu; simp at hu; subst hu; rfl
        case c3 => unfold maxLen; omega
        case c4 => omega
        case c5 => simp; omega
        · intro v' w1 hown' hgrow _
          have R1 : w1.ownsRow w.heap.size 3 1 v' (liveTo cs (j + 1)).length (vals (liveTo cs (j + 1))) := by
            rw [HW.out, vals_snoc]; simpa using hown'
          have R2 := (HB.out.alloc (by omega) (.cells #[.int .i64 (j : Int)] 3)).grown hgrow (by simp; omega) (fun g hg => (HO.out.lt _ hg).1)
          clear hown' hgrow
          go_wp2_with fail
          go_roundw
          case rel => exact ⟨j + 1, by omega, by go_num, R1, R2⟩
          case measure => simp [intOf]; omega
    · have : j = cs.length := by omega
      subst this
      go_wp2_with fail
      go_ret
      exact ⟨_, rfl, hown, hbr⟩
set_option maxRecDepth 100000 in
set_option maxHeartbeats 800000 in
theorem roomC_any (n : Int) (h : CeIn w kb fb cb v ab ac x bs cs p L t) :
    Calls Tryd.prog 17 #[.pointer (some ⟨kb, 0, none⟩), .int .i64 n] w fun e w' => e = .returned (.tuple #[.int .i64 (freeZ p n), .int .i64 (retZ cs n)]) ∧ Below w.heap.size w w' := by
  have c0 := h.cells.1
  go_enter Tryd.func17, Tryd.ntmps17
  go_wp2_with fail
  go_region_held3 (fun W => W.cell? ⟨kb, 0, none⟩ = some (.pointer (some ⟨fb, 0, none⟩))) (first | exact c0 | exact (CeIn.cells (by assumption)).1)
    (first
      | (go_at_call 53; refine (free_any (p := p) (cs := cs) (cb := cb) (v := v) _ (by first | exact h.drew.fr | exact h2.fr)).mono ?_; rintro e w1 ⟨rfl, rfl⟩)
      | (go_at_call 54; refine (retired_any _ h.drew.fr).mono ?_; rintro e w2 ⟨rfl, hb2⟩; have h2 := h.drew.more hb2))
  go_wp2_with fail
  go_ret2
  exact ⟨rfl, from_drew hb2⟩
end

section
variable (n k c : Int) (w : World)
set_option maxHeartbeats 400000 in
theorem cntC_nil : Calls Tryd.prog 27 #[.pointer none, .int .i64 n, .int .i64 c] w fun e w' => e = .returned (.int .i64 1) ∧ w = w' := by
  go_enter Tryd.func27, Tryd.ntmps27
  go_wp2_with (go_at_call 47; refine (hasC_nil _ _).mono ?_; rintro e w1 ⟨rfl, rfl⟩)
  go_ret
  exact ⟨rfl, rfl⟩
set_option maxHeartbeats 400000 in
theorem allocC_nil : Calls Tryd.prog 23 #[.pointer none, .int .i64 n] w fun e w' => e = .returned (.tuple #[.int .i64 0, .int .i64 1]) ∧ w = w' := by
  go_enter Tryd.func23, Tryd.ntmps23
  go_wp2
  go_ret2
  exact ⟨rfl, rfl⟩
set_option maxHeartbeats 400000 in
theorem freeC_nil : Calls Tryd.prog 24 #[.pointer none, .int .i64 n] w fun e w' => e = .returned (.tuple #[.bool false, .int .i64 1]) ∧ w = w' := by
  go_enter Tryd.func24, Tryd.ntmps24
  go_wp2
  go_ret2
  exact ⟨rfl, rfl⟩
set_option maxHeartbeats 400000 in
theorem liveC_nil : Calls Tryd.prog 15 #[.pointer none] w fun e w' => e = .returned (.slice none 0 0) ∧ w = w' := by
  go_enter Tryd.func15, Tryd.ntmps15
  go_wp2
  go_ret
  exact ⟨rfl, rfl⟩
set_option maxHeartbeats 400000 in
theorem setC_nil (y : Vl) (hy : y.ok) : Calls Tryd.prog 26 #[.pointer none, .int .i64 n, .int .i64 k, Wd.val y.k y.n] w fun e w' => e = .returned (.int .i64 1) ∧ Below w.heap.size w w' := by
  have hE := fun W => Wd.encode_any y.k y.n W hy.1
  have hE2 : Wd.encE y.k y.n = 0 := by simp [Wd.encE, hy.2]
  have hb0 : Below w.heap.size w (w.alloc (.cells #[.int .i64 y.k, .int .u64 y.n] 43)) := (Below.refl _ _).alloc (Nat.le_refl _) _
  unfold Wd.val at *
  go_enter Tryd.func26, Tryd.ntmps26
  go_wp2_with (first
    | (go_at_call 65; refine (hE _).mono ?_; rw [hE2]; rintro e w1 ⟨rfl, hb1⟩)
    | (go_at_call 63; refine (placeC_nil n k _).mono ?_; rintro e w2 ⟨rfl, rfl⟩))
  go_ret
  exact ⟨rfl, below_more hb0 hb1⟩
set_option maxRecDepth 100000 in
set_option maxHeartbeats 400000 in
theorem getC_nil : Calls Tryd.prog 25 #[.pointer none, .int .i64 n, .int .i64 k] w fun e w' => e = .returned (.tuple #[Wd.val 0 0, .int .i64 1]) ∧ Below w.heap.size w w' := by
  have hb0 : Below w.heap.size w (w.alloc (.cells #[.int .i64 0, .int .u64 0] 43)) := (Below.refl _ _).alloc (Nat.le_refl _) _
  have hZ : Blk (w.alloc (.cells #[.int .i64 0, .int .u64 0] 43)) w.heap.size 43 [.int .i64 0, .int .u64 0] := Blk.new w _ _
  have HZ := Lib.hid hZ
  have f0 := hZ.free 0
  have f1 := hZ.free 1
  have z0 := hZ.cell (i := 0) rfl
  have z1 := hZ.cell (i := 1) rfl
  clear hZ
  unfold Wd.val
  go_enter Tryd.func25, Tryd.ntmps25
  go_wp2_with (go_at_call 63; refine (placeC_nil n k _).mono ?_; rintro e w2 ⟨rfl, rfl⟩)
  refine bodyPost_ret (res_cell_tmp rfl _ _ w.heap.size 43 _ (0, 0) _ _ rfl rfl HZ.out Tryd.underlying43 rfl (by kernel_rfl)) rfl ?_
  exact ⟨rfl, hb0⟩
set_option maxRecDepth 100000 in
set_option maxHeartbeats 400000 in
theorem headC_nil : Calls Tryd.prog 12 #[.pointer none, .int .i64 n] w fun e w' => e = .returned (.tuple #[Hd.hdr 0 0 false, .int .i64 1]) ∧ Below w.heap.size w w' := by
  have hb0 : Below w.heap.size w (w.alloc (.cells #[.int .i64 0, .int .i64 0, .bool false] 47)) := (Below.refl _ _).alloc (Nat.le_refl _) _
  have hZ : Blk (w.alloc (.cells #[.int .i64 0, .int .i64 0, .bool false] 47)) w.heap.size 47 [.int .i64 0, .int .i64 0, .bool false] := Blk.new w _ _
  have HZ := Lib.hid hZ
  have f0 := hZ.free 0
  have f1 := hZ.free 1
  have f2 := hZ.free 2
  have z0 := hZ.cell (i := 0) rfl
  have z1 := hZ.cell (i := 1) rfl
  have z2 := hZ.cell (i := 2) rfl
  clear hZ
  unfold Hd.hdr
  go_enter Tryd.func12, Tryd.ntmps12
  go_wp2_with (go_at_call 47; refine (hasC_nil n _).mono ?_; rintro e w2 ⟨rfl, rfl⟩)
  refine bodyPost_ret (res_cell_tmp rfl _ _ w.heap.size 47 _ (0, 0) _ _ rfl rfl HZ.out Tryd.underlying47 rfl (by kernel_rfl)) rfl ?_
  exact ⟨rfl, hb0⟩
end
end Go.Proofs.YtplneoapcadlnaaDoor
