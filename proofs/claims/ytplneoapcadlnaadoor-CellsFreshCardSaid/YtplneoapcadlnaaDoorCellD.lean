/- Cells: Header, SetCount. -/
import Derived.Test.YtplneoapcadlnaaDoorCellC
import Derived.Test.YtplneoapcadlnaaDoorLayBase
namespace Go.Proofs.YtplneoapcadlnaaDoor
open Go.RowKit
attribute [local go_sem ↓] Go.wp_at_zero Go.wp_at_succ

def ctZ (ct : List Int) (n : Int) : Int := if inN n ct.length then ct[n.toNat]?.getD 0 else 0
def hdE (cs : List St) (n : Int) : Int := if inN n cs.length = true then 0 else 1
def vlAt (vs : List (List Vl)) (n k : Int) : Vl := (vs[n.toNat]?.getD [])[k.toNat]?.getD Vl.nil
def gtV (x : Sh) (cs : List St) (vs : List (List Vl)) (n k : Int) : Vl := if plE x cs n k = 0 then vlAt vs n k else Vl.nil
def scE (cs : List St) (n c : Int) : Int := if (inN n cs.length && decide (0 ≤ c ∧ c ≤ 2147483647)) = true then (if takenZ cs n = true then 0 else 9) else 1
def scC (cs : List St) (ct : List Int) (n c : Int) : List Int := if scE cs n c = 0 then ct.set n.toNat c else ct
def stE (x : Sh) (cs : List St) (n k : Int) (y : Vl) : Int := if Wd.rightB y.k y.n = true then plE x cs n k else 1
def stV (x : Sh) (cs : List St) (vs : List (List Vl)) (n k : Int) (y : Vl) : List (List Vl) := if stE x cs n k y = 0 then vs.set n.toNat ((vs[n.toNat]?.getD []).set k.toNat y) else vs
theorem ctZ_at {ct : List Int} {i : Nat} {c : Int} (h : ct[i]? = some c) : ctZ ct i = c := by
  have := (List.getElem?_eq_some_iff.1 h).1
  simp [ctZ, inN_t (n := (i : Int)) (m := ct.length) (by omega), h]
theorem hd_out {x : Sh} {cs : List St} {ct : List Int} (h1 : cs.length = x.n) (h2 : ct.length = x.n) {n : Int} (h : inN n x.n = false) : genZ cs n = 0 ∧ ctZ ct n = 0 ∧ takenZ cs n = false ∧ hdE cs n = 1 := by
  simp [genZ, ctZ, takenZ, hdE, h1, h2, h]
theorem hd_in {x : Sh} {cs : List St} (h1 : cs.length = x.n) {i : Nat} (h : i < x.n) : hdE cs i = 0 := by simp [hdE, h1, inN_t (n := (i : Int)) (m := x.n) (by omega)]
theorem hdr_back {g c : Int} (u : Bool) (hg : 0 ≤ g ∧ g ≤ 4294967295) (hc : 0 ≤ c ∧ c ≤ 2147483647) : Hd.u64ok (Hd.encZ g c u) ∧ Hd.decG (Hd.encZ g c u) = g ∧ Hd.decC (Hd.encZ g c u) = c ∧ Hd.decU (Hd.encZ g c u) = u := by
  unfold Hd.u64ok Hd.decG Hd.decC Hd.decU Hd.encZ Hd.bitZ
  cases u
  · refine ⟨by simp; omega, by simp; omega, by simp; omega, by simp; omega⟩
  · refine ⟨by simp; omega, by simp; omega, by simp; omega, by simp; omega⟩

section
variable {w w1 : World} {kb fb cb ab ac bs : Nat} {v : Nat → Value} {x : Sh} {cs : List St} {p : Nat → List Int} {L : List Int} {t t1 : Int} {ct : List Int} {vs : List (List Vl)} {L0 : List Int}
theorem CeIn.res (h : CeIn w kb fb cb v ab ac x bs cs p L t) {L1 : List Int} (h1 : CeIn w1 kb fb cb v ab ac x bs cs p L1 t1) (ho : Only [ab, ac] w w1) {w2 : World} (h2 : Only [w.heap.size] w1 w2) : CeIn w2 kb fb cb v ab ac x bs cs p L1 t1 ∧ Only [ab, ac] w w2 := by
  have hlt := h.foot_lt
  have hpos : 0 < w.heap.size := Nat.lt_of_le_of_lt (Nat.zero_le _) (hlt kb (mem_ceFoot.2 (by simp)))
  exact ⟨h1.only h2 (by simp; omega) (fun g hg => by have := hlt g hg; simp; omega), ho.trans h2 (by simp)⟩
theorem only_res3 (w1 : World) (g : Nat) (a b c : Value) : Only [g] w1 (((w1.setCell ⟨g, 0, none⟩ a).setCell ⟨g, 1, none⟩ b).setCell ⟨g, 2, none⟩ c) :=
  (((Only.refl _ _).setCell (Or.inl (by simp)) _).setCell (Or.inl (by simp)) _).setCell (Or.inl (by simp)) _
theorem only_res2 (w1 : World) (g : Nat) (a b : Value) : Only [g] w1 ((w1.setCell ⟨g, 0, none⟩ a).setCell ⟨g, 1, none⟩ b) :=
  ((Only.refl _ _).setCell (Or.inl (by simp)) _).setCell (Or.inl (by simp)) _

set_option maxRecDepth 100000 in
set_option maxHeartbeats 800000 in
theorem headC_any (n : Int) (h : CeIn w kb fb cb v ab ac x bs cs p L t) (hr : RepTo x.n x bs L0 cs ct vs L) (hi : Inv x cs p) (hn : n ≤ 9223372036854775807) :
    Calls Tryd.prog 12 #[.pointer (some ⟨kb, 0, none⟩), .int .i64 n] w fun e w' => e = .returned (.tuple #[Hd.hdr (genZ cs n) (ctZ ct n) (takenZ cs n), .int .i64 (hdE cs n)]) ∧ ∃ t', CeIn w' kb fb cb v ab ac x bs cs p L t' ∧ Only [ab, ac] w w' := by
  obtain ⟨l1, l2, l3⟩ := hr.len
  have hb0 : Below w.heap.size w (w.alloc (.cells #[.int .i64 0, .int .i64 0, .bool false] 47)) := (Below.refl _ _).alloc (Nat.le_refl _) _
  have hZ0 : Blk (w.alloc (.cells #[.int .i64 0, .int .i64 0, .bool false] 47)) w.heap.size 47 [.int .i64 0, .int .i64 0, .bool false] := Blk.new w _ _
  have h0 := h.more hb0
  have HH := Lib.hid h
  have hlt := h.foot_lt
  cases hb : inN n x.n
  · obtain ⟨e1, e2, e3, e4⟩ := hd_out l1 l2 hb
    rw [e1, e2, e3, e4]
    unfold Hd.hdr
    clear e1 e2 e3 e4 h
    go_enter Tryd.func12, Tryd.ntmps12
    go_wp2_with fail
    refine (hasC_any n h0 hn).mono ?_
    rw [hb]
    rintro e w1 ⟨rfl, hb1⟩
    have h1 := h0.more hb1
    have hZ := hZ0.below hb1 hZ0.lt
    have hO : Only [ab, ac] w w1 := Only.of_below (below_more hb0 hb1)
    have f0 := hZ.free 0
    have f1 := hZ.free 1
    have f2 := hZ.free 2
    have z0 := hZ.cell (i := 0) rfl
    have z1 := hZ.cell (i := 1) rfl
    have z2 := hZ.cell (i := 2) rfl
    have HR := Lib.hid (fun a b c => HH.out.res h1 hO (only_res3 w1 w.heap.size a b c))
    have HZ := Lib.hid hZ
    clear hb1 h1 hZ hO hZ0 h0 hb0 hr hlt hi
    go_wp2_with fail
    refine bodyPost_ret (res_cell_tmp rfl _ _ w.heap.size 47 _ (0, 0) _ _ rfl rfl (((HZ.out.set 0 _).set 1 _).set 2 _) Tryd.underlying47 rfl (by kernel_rfl)) rfl ?_
    exact ⟨rfl, _, HR.out _ _ _⟩
  · have hin := inN_in hb
    obtain ⟨i, rfl⟩ : ∃ i : Nat, n = i := ⟨n.toNat, by omega⟩
    have hil : i < x.n := by omega
    obtain ⟨z, hz⟩ : ∃ z, cs[i]? = some z := ⟨_, List.getElem?_eq_getElem (by omega)⟩
    obtain ⟨c, hc⟩ : ∃ c, ct[i]? = some c := ⟨_, List.getElem?_eq_getElem (by omega)⟩
    have hzi := hi.cell i z hz
    obtain ⟨b1, b2, b3, b4⟩ := hdr_back z.t (g := z.g) (by omega) (hr.cok i c hc)
    rw [genZ_at hz, ctZ_at hc, takenZ_at hz, hd_in l1 hil]
    have hL := hr.head i z c hil hz hc
    have hq1 := (List.getElem?_eq_some_iff.1 hL).1
    have hb70 := h.small
    have hval : L[bs + x.at_ i]?.getD 0 = Hd.encZ z.g c z.t := by rw [hL]; rfl
    have HV := Lib.hid hval
    have HE := Lib.hid b1
    generalize Hd.encZ z.g c z.t = E at *
    have HQ := Lib.hid hq1
    clear hval b1 hq1 hL hzi hr hi hin h
    unfold Hd.hdr
    go_enter Tryd.func12, Tryd.ntmps12
    go_wp2_with fail
    refine (hasC_any i h0 hn).mono ?_
    rw [hb]
    rintro e w1 ⟨rfl, hb1⟩
    have h1 := h0.more hb1
    have hZ1 := hZ0.below hb1 hZ0.lt
    have hO1 : Only [ab, ac] w w1 := Only.of_below (below_more hb0 hb1)
    have c1 := h1.cells.2.1
    clear hb1 hZ0 h0 hb0
    go_wp2_with fail
    go_region_held3 (fun W => W.cell? ⟨kb, 1, none⟩ = some (.pointer (some ⟨ab, 0, none⟩))) (first | exact c1 | exact (CeIn.cells (by assumption)).2.1)
      (first
        | (go_at_call 48; refine (atC_any i h1.drew hil).mono ?_; rintro e w5 ⟨rfl, hb5⟩; have h5 := h1.drew.more hb5)
        | (go_at_call 30; refine (readC_any _ (bs + x.at_ i) (by omega) h5 HQ.out).mono ?_; rw [HV.out]; rintro e w6 ⟨rfl, t6, h6, hO6⟩))
    have hO6' : Only [ab, ac] w w6 := (hO1.trans (Only.of_below (S := [ab, ac]) (from_drew hb5)) (by simp)).trans hO6 (by simp)
    have hZ6 : Blk w6 w.heap.size 47 _ := (hZ1.drew.below hb5 hZ1.lt).only hO6 (by have q1 := hlt ab (mem_ceFoot.2 (by simp)); have q2 := hlt ac (mem_ceFoot.2 (by simp)); simp; omega)
    clear hO6 hb5 h5 hO1 h1 hZ1 c1
    go_wp2_with fail
    refine (Hd.decode_any _ _ HE.out).mono ?_
    unfold Hd.hdr
    rw [b2, b3, b4]
    rintro e w7 ⟨rfl, hb7⟩
    have hZ := hZ6.below hb7 hZ6.lt
    have f0 := hZ.free 0
    have f1 := hZ.free 1
    have f2 := hZ.free 2
    have z0 := hZ.cell (i := 0) rfl
    have z1 := hZ.cell (i := 1) rfl
    have z2 := hZ.cell (i := 2) rfl
    have h7 := h6.more hb7
    have hO7 : Only [ab, ac] w w7 := hO6'.trans (Only.of_below (S := [ab, ac]) hb7) (by simp)
    have HR := Lib.hid (fun a b c => HH.out.res h7 hO7 (only_res3 w7 w.heap.size a b c))
    have HZ := Lib.hid hZ
    clear hb7 h6 h7 hZ hZ6 hO7 hO6' hlt
    go_wp2_with fail
    refine bodyPost_ret (res_cell_tmp rfl _ _ w.heap.size 47 _ (0, 0) _ _ rfl rfl (((HZ.out.set 0 _).set 1 _).set 2 _) Tryd.underlying47 rfl (by kernel_rfl)) rfl ?_
    exact ⟨rfl, _, HR.out _ _ _⟩
end
end Go.Proofs.YtplneoapcadlnaaDoor
