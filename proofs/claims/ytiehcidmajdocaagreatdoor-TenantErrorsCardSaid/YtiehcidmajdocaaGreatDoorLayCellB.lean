/- Cells: Header, SetCount. Cells: SetCount, Get, Set. Cells: Set, Live, Room; nil cells. -/
import Derived.Test.YtiehcidmajdocaaGreatDoorLayCellA
import Derived.Test.YtiehcidmajdocaaGreatDoorLayBase
namespace Go.Proofs.YtiehcidmajdocaaGreatDoor
open Go.RowKit
attribute [local go_sem ↓] Go.wp_at_zero Go.wp_at_succ

def ctZ (ct : List Int) (n : Int) : Int := if inN n ct.length then ct[n.toNat]?.getD 0 else 0
def hdE (cs : List St) (n : Int) : Int := if inN n cs.length = true then 0 else 1
def vlAt (vs : List (List Vl)) (n k : Int) : Vl := (vs[n.toNat]?.getD [])[k.toNat]?.getD Vl.nil
def gtV (x : Sh) (cs : List St) (vs : List (List Vl)) (n k : Int) : Vl := if plE x cs n k = 0 then vlAt vs n k else Vl.nil
def scE (cs : List St) (n c : Int) : Int := if (inN n cs.length && decide (0 ≤ c ∧ c ≤ 2147483647)) = true then (if takenZ cs n = true then 0 else 9) else 1
def scC (cs : List St) (ct : List Int) (n c : Int) : List Int := if scE cs n c = 0 then ct.set n.toNat c else ct
def stE (x : Sh) (cs : List St) (n k : Int) (y : Vl) : Int := if Wd.rightB y.k y.n = true then plE x cs n k else 1
def stV (x : Sh) (cs : List St) (vs : List (List Vl)) (n k : Int) (y : Vl) : List (List Vl) := if stE x cs n k y = 0 then vs.set n.toNat ((vs[n.toNat]?.getD []).set k.toNat y) else vs
theorem ctZ_at {ct : List Int} {i : Nat} {c : Int} (h : ct[i]? = some c) : ctZ ct i = c := by
  have := (List.getElem?_eq_some_iff.1 h).1
  simp [ctZ, inN_t (n := (i : Int)) (m := ct.length) (by omega), h]
theorem hd_out {x : Sh} {cs : List St} {ct : List Int} (h1 : cs.length = x.n) (h2 : ct.length = x.n) {n : Int} (h : inN n x.n = false) : genZ cs n = 0 ∧ ctZ ct n = 0 ∧ takenZ cs n = false ∧ hdE cs n = 1 := by
  simp [genZ, ctZ, takenZ, hdE, h1, h2, h]
theorem hd_in {x : Sh} {cs : List St} (h1 : cs.length = x.n) {i : Nat} (h : i < x.n) : hdE cs i = 0 := by simp [hdE, h1, inN_t (n := (i : Int)) (m := x.n) (by omega)]
theorem hdr_back {g c : Int} (u : Bool) (hg : 0 ≤ g ∧ g ≤ 4294967295) (hc : 0 ≤ c ∧ c ≤ 2147483647) : Hd.u64ok (Hd.encZ g c u) ∧ Hd.decG (Hd.encZ g c u) = g ∧ Hd.decC (Hd.encZ g c u) = c ∧ Hd.decU (Hd.encZ g c u) = u := by
  unfold Hd.u64ok Hd.decG Hd.decC Hd.decU Hd.encZ Hd.bitZ
  cases u
  · refine ⟨by simp; omega, by simp; omega, by simp; omega, by simp; omega⟩
  · refine ⟨by simp; omega, by simp; omega, by simp; omega, by simp; omega⟩

section
variable {w w1 : World} {kb fb cb ab ac bs : Nat} {v : Nat → Value} {x : Sh} {cs : List St} {p : Nat → List Int} {L : List Int} {t t1 : Int} {ct : List Int} {vs : List (List Vl)} {L0 : List Int}
theorem CeIn.res (h : CeIn w kb fb cb v ab ac x bs cs p L t) {L1 : List Int} (h1 : CeIn w1 kb fb cb v ab ac x bs cs p L1 t1) (ho : Only [ab, ac] w w1) {w2 : World} (h2 : Only [w.heap.size] w1 w2) : CeIn w2 kb fb cb v ab ac x bs cs p L1 t1 ∧ Only [ab, ac] w w2 := by
  have hlt := h.foot_lt
  have hpos : 0 < w.heap.size := Nat.lt_of_le_of_lt (Nat.zero_le _) (hlt kb (mem_ceFoot.2 (by simp)))
  exact ⟨h1.only h2 (by simp; omega) (fun g hg => by have := hlt g hg; simp; omega), ho.trans h2 (by simp)⟩
theorem only_res3 (w1 : World) (g : Nat) (a b c : Value) : Only [g] w1 (((w1.setCell ⟨g, 0, none⟩ a).setCell ⟨g, 1, none⟩ b).setCell ⟨g, 2, none⟩ c) :=
  (((Only.refl _ _).setCell (Or.inl (by simp)) _).setCell (Or.inl (by simp)) _).setCell (Or.inl (by simp)) _
theorem only_res2 (w1 : World) (g : Nat) (a b : Value) : Only [g] w1 ((w1.setCell ⟨g, 0, none⟩ a).setCell ⟨g, 1, none⟩ b) :=
  ((Only.refl _ _).setCell (Or.inl (by simp)) _).setCell (Or.inl (by simp)) _

end
end Go.Proofs.YtiehcidmajdocaaGreatDoor

namespace Go.Proofs.YtiehcidmajdocaaGreatDoor
open Go.RowKit
attribute [local go_sem ↓] Go.wp_at_zero Go.wp_at_succ

theorem sc_out {x : Sh} {cs : List St} {ct : List Int} (h1 : cs.length = x.n) {n c : Int} (h : inN n x.n = false) : scE cs n c = 1 ∧ scC cs ct n c = ct := by simp [scE, scC, h1, h]
theorem sc_bad {cs : List St} {ct : List Int} {n c : Int} (h : decide (0 ≤ c ∧ c ≤ 2147483647) = false) : scE cs n c = 1 ∧ scC cs ct n c = ct := by simp [scE, scC, h]
theorem sc_none {x : Sh} {cs : List St} {ct : List Int} (h1 : cs.length = x.n) {n c : Int} (h : inN n x.n = true) (hc : decide (0 ≤ c ∧ c ≤ 2147483647) = true) (ht : takenZ cs n = false) : scE cs n c = 9 ∧ scC cs ct n c = ct := by simp [scE, scC, h1, h, hc, ht]
theorem sc_yes {x : Sh} {cs : List St} {ct : List Int} (h1 : cs.length = x.n) {n c : Int} (h : inN n x.n = true) (hc : decide (0 ≤ c ∧ c ≤ 2147483647) = true) (ht : takenZ cs n = true) : scE cs n c = 0 ∧ scC cs ct n c = ct.set n.toNat c := by simp [scE, scC, h1, h, hc, ht]
theorem vl_back {y : Vl} (h : y.ok) : Wd.u64ok y.w ∧ Wd.decK y.w = y.k ∧ Wd.decN y.w = y.n := by
  obtain ⟨k, n⟩ := y
  obtain ⟨h0, hr⟩ := h
  simp only at h0 hr
  unfold Vl.w
  simp only
  rcases Wd.sort4 k n with ⟨rfl, rfl⟩ | ⟨rfl, hn⟩ | ⟨rfl, hn⟩ | ⟨a, b, c⟩
  · exact ⟨by unfold Wd.u64ok; decide, rfl, rfl⟩
  · obtain ⟨e1, e2, e3⟩ := Wd.at_dat hn
    have e : Wd.encV 1 n = 2 * n + 1 := by simp [Wd.encV, e1, e2]
    rw [e]
    unfold Wd.u64ok Wd.decK Wd.decN
    refine ⟨by omega, ?_, ?_⟩
    · rw [if_neg (by omega), if_pos (by omega)]
    · rw [if_neg (by omega), if_pos (by omega)]; omega
  · obtain ⟨e1, e2, e3⟩ := Wd.at_ptr hn
    have e : Wd.encV 2 n = 2 * n + 2 := by simp [Wd.encV, e1, e2, e3]
    rw [e]
    unfold Wd.u64ok Wd.decK Wd.decN
    refine ⟨by omega, ?_, ?_⟩
    · rw [if_neg (by omega), if_neg (by omega)]
    · rw [if_neg (by omega), if_neg (by omega)]; omega
  · simp [Wd.rightB, a, b, c] at hr
theorem gt_err {x : Sh} {cs : List St} {vs : List (List Vl)} {n k : Int} (h : plE x cs n k ≠ 0) : gtV x cs vs n k = Vl.nil := by simp [gtV, h]
theorem gt_yes {x : Sh} {cs : List St} {vs : List (List Vl)} {i k : Nat} {l : List Vl} {y : Vl} (h : plE x cs i k = 0) (hl : vs[i]? = some l) (hy : l[k]? = some y) : gtV x cs vs i k = y := by simp [gtV, h, vlAt, hl, hy]
theorem pl_cases (x : Sh) (bs : Nat) (cs : List St) (n k : Int) : ((plE x cs n k == 0) = false ∧ plV x bs cs n k = 0) ∨ (plE x cs n k = 0 ∧ ∃ i j : Nat, n = i ∧ k = j ∧ i < x.n ∧ j < x.sl i ∧ takenZ cs i = true ∧ plV x bs cs n k = (bs : Int) + x.at_ i + 1 + j) := by
  cases hS : inS x n k
  · obtain ⟨e1, e2⟩ := pl_out (bs := bs) (cs := cs) hS
    exact Or.inl ⟨by rw [e1]; rfl, e2⟩
  · cases ht : takenZ cs n
    · obtain ⟨e1, e2⟩ := pl_none (bs := bs) hS ht
      exact Or.inl ⟨by rw [e1]; rfl, e2⟩
    · obtain ⟨e1, e2⟩ := pl_yes (bs := bs) hS ht
      obtain ⟨i, j, rfl, rfl, hi, hj⟩ := inS_at hS
      exact Or.inr ⟨e1, i, j, rfl, rfl, hi, hj, ht, e2⟩

section
variable {w w1 : World} {kb fb cb ab ac bs : Nat} {v : Nat → Value} {x : Sh} {cs : List St} {p : Nat → List Int} {L : List Int} {t t1 : Int} {ct : List Int} {vs : List (List Vl)} {L0 : List Int}
set_option maxRecDepth 100000 in
set_option maxHeartbeats 800000 in
theorem getC_any (n k : Int) (h : CeIn w kb fb cb v ab ac x bs cs p L t) (hr : RepTo x.n x bs L0 cs ct vs L) (hn : n ≤ 9223372036854775807) :
    Calls Tryz.prog 75 #[.pointer (some ⟨kb, 0, none⟩), .int .i64 n, .int .i64 k] w fun e w' => e = .returned (.tuple #[Wd.val (gtV x cs vs n k).k (gtV x cs vs n k).n, .int .i64 (plE x cs n k)]) ∧ ∃ t', CeIn w' kb fb cb v ab ac x bs cs p L t' ∧ Only [ab, ac] w w' := by
  have hb0 : Below w.heap.size w (w.alloc (.cells #[.int .i64 0, .int .u64 0] 53)) := (Below.refl _ _).alloc (Nat.le_refl _) _
  have hZ0 : Blk (w.alloc (.cells #[.int .i64 0, .int .u64 0] 53)) w.heap.size 53 [.int .i64 0, .int .u64 0] := Blk.new w _ _
  have h0 := h.more hb0
  have HH := Lib.hid h
  have hlt := h.foot_lt
  rcases pl_cases x bs cs n k with ⟨he, hv⟩ | ⟨he, i, j, rfl, rfl, hi, hj, ht, hv⟩
  · rw [gt_err (fun e => by rw [e] at he; cases he)]
    generalize hE : plE x cs n k = E at *
    have HE := Lib.hid hE
    clear hE
    unfold Wd.val Vl.nil
    clear h hr
    go_enter Tryz.func75, Tryz.ntmps75
    go_wp2_with fail
    refine (placeC_any n k h0 hn).mono ?_
    rw [hv, HE.out]
    rintro e w1 ⟨rfl, hb1⟩
    have h1 := h0.more hb1
    have hZ := hZ0.below hb1 hZ0.lt
    have hO : Only [ab, ac] w w1 := Only.of_below (below_more hb0 hb1)
    have f0 := hZ.free 0
    have f1 := hZ.free 1
    have z0 := hZ.cell (i := 0) rfl
    have z1 := hZ.cell (i := 1) rfl
    have HR := Lib.hid (fun a b => HH.out.res h1 hO (only_res2 w1 w.heap.size a b))
    have HZ := Lib.hid hZ
    have he' : (E != 0) = true := by simp [bne, he]
    clear hb1 h1 hZ hO hZ0 h0 hb0 hlt
    go_wp2_with fail
    refine bodyPost_ret (res_cell_tmp rfl _ _ w.heap.size 53 _ (0, 0) _ _ rfl rfl ((HZ.out.set 0 _).set 1 _) Tryz.underlying53 rfl (by kernel_rfl)) rfl ?_
    exact ⟨rfl, _, HR.out _ _⟩
  · obtain ⟨l1, l2, l3⟩ := hr.len
    obtain ⟨l, hl⟩ : ∃ l, vs[i]? = some l := ⟨_, List.getElem?_eq_getElem (by omega)⟩
    have hls := hr.slots i l hl
    obtain ⟨y, hy⟩ : ∃ y, l[j]? = some y := ⟨_, List.getElem?_eq_getElem (by omega)⟩
    have hok := hr.vok i l hl y (List.mem_of_getElem? hy)
    obtain ⟨b1, b2, b3⟩ := vl_back hok
    have hL := hr.slot i l j y hi hl hy
    have hq1 := (List.getElem?_eq_some_iff.1 hL).1
    have hval : L[bs + x.at_ i + 1 + j]?.getD 0 = y.w := by rw [hL]; rfl
    rw [gt_yes he hl hy, he]
    have HPL := Lib.hid he
    have HPV := Lib.hid hv
    generalize y.w = E at *
    have HV := Lib.hid hval
    have HE := Lib.hid b1
    have HQ := Lib.hid hq1
    clear hval b1 hq1 hL hok hls hl hy l1 l2 l3 hr he hv ht h
    unfold Wd.val
    go_enter Tryz.func75, Tryz.ntmps75
    go_wp2_with fail
    refine (placeC_any i j h0 hn).mono ?_
    rw [HPV.out, HPL.out]
    rintro e w1 ⟨rfl, hb1⟩
    have h1 := h0.more hb1
    have hZ1 := hZ0.below hb1 hZ0.lt
    have hO1 : Only [ab, ac] w w1 := Only.of_below (below_more hb0 hb1)
    have c1 := h1.cells.2.1
    clear hb1 hZ0 h0 hb0
    go_wp2_with fail
    refine (readC_any _ (bs + x.at_ i + 1 + j) (by omega) h1 HQ.out).mono ?_
    rw [HV.out]
    rintro e w6 ⟨rfl, t6, h6, hO6⟩
    have hO6' : Only [ab, ac] w w6 := hO1.trans hO6 (by simp)
    have hZ6 : Blk w6 w.heap.size 53 _ := hZ1.only hO6 (by have q1 := hlt ab (mem_ceFoot.2 (by simp)); have q2 := hlt ac (mem_ceFoot.2 (by simp)); simp; omega)
    clear hO6 hO1 h1 hZ1 c1
    go_wp2_with fail
    refine (Wd.decode_any _ _ HE.out).mono ?_
    unfold Wd.val
    rw [b2, b3]
    rintro e w7 ⟨rfl, hb7⟩
    have hZ := hZ6.below hb7 hZ6.lt
    have f0 := hZ.free 0
    have f1 := hZ.free 1
    have z0 := hZ.cell (i := 0) rfl
    have z1 := hZ.cell (i := 1) rfl
    have h7 := h6.more hb7
    have hO7 : Only [ab, ac] w w7 := hO6'.trans (Only.of_below (S := [ab, ac]) hb7) (by simp)
    have HR := Lib.hid (fun a b => HH.out.res h7 hO7 (only_res2 w7 w.heap.size a b))
    have HZ := Lib.hid hZ
    clear hb7 h6 h7 hZ hZ6 hO7 hO6' hlt
    go_wp2_with fail
    refine bodyPost_ret (res_cell_tmp rfl _ _ w.heap.size 53 _ (0, 0) _ _ rfl rfl ((HZ.out.set 0 _).set 1 _) Tryz.underlying53 rfl (by kernel_rfl)) rfl ?_
    exact ⟨rfl, _, HR.out _ _⟩
end
end Go.Proofs.YtiehcidmajdocaaGreatDoor

namespace Go.Proofs.YtiehcidmajdocaaGreatDoor
open Go.RowKit
attribute [local go_sem ↓] Go.wp_at_zero Go.wp_at_succ

theorem st_bad {x : Sh} {cs : List St} {vs : List (List Vl)} {n k : Int} {y : Vl} (h : Wd.rightB y.k y.n = false) : stE x cs n k y = 1 ∧ stV x cs vs n k y = vs := by simp [stE, stV, h]
theorem st_err {x : Sh} {cs : List St} {vs : List (List Vl)} {n k : Int} {y : Vl} (h : Wd.rightB y.k y.n = true) (he : (plE x cs n k == 0) = false) : stE x cs n k y = plE x cs n k ∧ stV x cs vs n k y = vs := by
  have : ¬ plE x cs n k = 0 := fun e => by rw [e] at he; cases he
  simp [stE, stV, h, this]
theorem st_yes {x : Sh} {cs : List St} {vs : List (List Vl)} {i j : Nat} {y : Vl} {l : List Vl} (h : Wd.rightB y.k y.n = true) (he : plE x cs i j = 0) (hl : vs[i]? = some l) : stE x cs i j y = 0 ∧ stV x cs vs i j y = vs.set i (l.set j y) := by simp [stE, stV, h, he, hl]
def liveTo (cs : List St) : Nat → List Int
  | 0 => []
  | j + 1 => liveTo cs j ++ (if (cs[j]?.map St.t).getD false = true then [(j : Int)] else [])
theorem live_len (cs : List St) : ∀ j, (liveTo cs j).length ≤ j
  | 0 => by simp [liveTo]
  | j + 1 => by
    have := live_len cs j
    simp only [liveTo, List.length_append]
    split <;> simp <;> omega
theorem live_yes {cs : List St} {j : Nat} {z : St} (hz : cs[j]? = some z) (ht : z.t = true) : liveTo cs (j + 1) = liveTo cs j ++ [(j : Int)] := by simp [liveTo, hz, ht]
theorem live_no {cs : List St} {j : Nat} {z : St} (hz : cs[j]? = some z) (ht : z.t = false) : liveTo cs (j + 1) = liveTo cs j := by simp [liveTo, hz, ht]

section
variable {w w1 : World} {kb fb cb ab ac bs : Nat} {v : Nat → Value} {x : Sh} {cs : List St} {p : Nat → List Int} {L : List Int} {t t1 : Int} {ct : List Int} {vs : List (List Vl)} {L0 : List Int}
set_option maxRecDepth 100000 in
set_option maxHeartbeats 800000 in
theorem liveC_any (h : CeIn w kb fb cb v ab ac x bs cs p L t) :
    Calls Tryz.prog 73 #[.pointer (some ⟨kb, 0, none⟩)] w fun e w' =>
      ∃ u, e = .returned u ∧ w'.ownsRow w.heap.size 3 1 u (liveTo cs cs.length).length (vals (liveTo cs cs.length)) ∧ Below w.heap.size w w' := by
  obtain ⟨i0, hi0, hz0, hz1, hz2⟩ := info_parts Tryz.infoInt
  obtain ⟨_, _, _, c3, c4, c5, c6, c7⟩ := h.cells
  have hlen := h.len
  have hn := h.small.2.2
  have HC := Lib.hid (show countZ x.a x.b x.c x.q x.s = ((cs.length : Nat) : Int) by rw [hlen]; exact (x.count h.may).1)
  have HF := Lib.hid h
  have hcl : cs.length ≤ 192 := by omega
  clear hlen h
  go_enter Tryz.func73, Tryz.ntmps73
  go_wp2_with (go_at_call 128; refine (count_any _ _ _ _ _ _).mono ?_; rw [HC.out]; rintro e w0 ⟨rfl, hb0⟩)
  have HB0 := Lib.hid hb0
  have hsz0 := hb0.size
  clear hb0 c3 c4 c5 c6 c7
  go_loopw [3, 12] (fun u i wr => ∃ j : Nat, j ≤ cs.length ∧ i = .int .i64 j ∧ wr.ownsRow w.heap.size 3 1 u (liveTo cs j).length (vals (liveTo cs j)) ∧ Below w.heap.size w wr) (fun _ i _ => cs.length - (intOf i).toNat)
  case atStart => exact ⟨0, by omega, rfl, World.ownsRow_nil _ _ _ _, HB0.out⟩
  case round =>
    obtain ⟨j, hj, rfl, hown, hbr⟩ := hrel
    have hF := HF.out.more hbr
    by_cases hlt : j < cs.length
    · obtain ⟨z, hz⟩ : ∃ z, cs[j]? = some z := ⟨_, List.getElem?_eq_getElem hlt⟩
      have htk := takenZ_at hz
      have c0 := hF.cells.1
      have HFR := Lib.hid hF.fr
      have hw := live_len cs j
      cases ht : z.t
      · have HW := Lib.hid (live_no hz ht)
        rw [ht] at htk
        clear hz
        go_wp2_with (go_at_call 95; refine (taken_any _ HFR.out).mono ?_; rw [htk]; rintro e w3 ⟨rfl, rfl⟩)
        go_roundw
        case rel => exact ⟨j + 1, by omega, by go_num, by rw [HW.out]; exact hown, hbr⟩
        case measure => simp [intOf]; omega
      · have HW := Lib.hid (live_yes hz ht)
        rw [ht] at htk
        have HO := Lib.hid hown
        have HB := Lib.hid hbr
        have hsz := hbr.size
        clear hown hbr hF hz
        go_wp2_with (first
          | (go_at_call 95; refine (taken_any _ HFR.out).mono ?_; rw [htk]; rintro e w3 ⟨rfl, rfl⟩)
          | (at_builtin; refine wpList_append_own _ rfl _ _ 63 rfl w.heap.size 3 i0 (.int .i64 0) 1 8 Tryz.underlying63 hi0 hz0 hz1 hz2 rfl (by decide) _ _ _ rfl (HO.out.alloc _) ⟨wr.heap.size, 0, none⟩ 1 1 [.int .i64 (j : Int)] rfl rfl ?c1 ?c2 ?c3 ?c4 ?c5 ?_))
        case c1 =>
          intro q u hq
          match q, hq with
          | 0, hq => simp at hq; subst hq; simp [Addr.add]
        case c2 => intro u hu; simp at hu; subst hu; rfl
        case c3 => unfold maxLen; omega
        case c4 => omega
        case c5 => simp; omega
        · intro v' w1 hown' hgrow _
          have R1 : w1.ownsRow w.heap.size 3 1 v' (liveTo cs (j + 1)).length (vals (liveTo cs (j + 1))) := by
            rw [HW.out, vals_snoc]; simpa using hown'
          have R2 := (HB.out.alloc (by omega) (.cells #[.int .i64 (j : Int)] 3)).grown hgrow (by simp; omega) (fun g hg => (HO.out.lt _ hg).1)
          clear hown' hgrow
          go_wp2_with fail
          go_roundw
          case rel => exact ⟨j + 1, by omega, by go_num, R1, R2⟩
          case measure => simp [intOf]; omega
    · have : j = cs.length := by omega
      subst this
      go_wp2_with fail
      go_ret
      exact ⟨_, rfl, hown, hbr⟩
end

end Go.Proofs.YtiehcidmajdocaaGreatDoor
