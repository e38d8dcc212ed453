/- Cells: Header, SetCount. Cells: SetCount, Get, Set. Cells: Set, Live, Room; nil cells. Cells: Alloc, Free; one state for all calls. Cells: New. -/
import Derived.Test.YtdhgpmndgcggfaaGreatDoorLbCellA
import Derived.Test.YtdhgpmndgcggfaaGreatDoorLbBase
import Derived.Test.YtdhgpmndgcggfaaGreatDoorLbFreeM
namespace Go.Proofs.YtdhgpmndgcggfaaGreatDoor
open Go.RowKit
attribute [local go_sem ↓] Go.wp_at_zero Go.wp_at_succ

def ctZ (ct : List Int) (n : Int) : Int := if inN n ct.length then ct[n.toNat]?.getD 0 else 0
def hdE (cs : List St) (n : Int) : Int := if inN n cs.length = true then 0 else 1
def vlAt (vs : List (List Vl)) (n k : Int) : Vl := (vs[n.toNat]?.getD [])[k.toNat]?.getD Vl.nil
def gtV (x : Sh) (cs : List St) (vs : List (List Vl)) (n k : Int) : Vl := if plE x cs n k = 0 then vlAt vs n k else Vl.nil
def scE (cs : List St) (n c : Int) : Int := if (inN n cs.length && decide (0 ≤ c ∧ c ≤ 2147483647)) = true then (if takenZ cs n = true then 0 else 9) else 1
def scC (cs : List St) (ct : List Int) (n c : Int) : List Int := if scE cs n c = 0 then ct.set n.toNat c else ct
def stE (x : Sh) (cs : List St) (n k : Int) (y : Vl) : Int := if Wd.rightB y.k y.n = true then plE x cs n k else 1
def stV (x : Sh) (cs : List St) (vs : List (List Vl)) (n k : Int) (y : Vl) : List (List Vl) := if stE x cs n k y = 0 then vs.set n.toNat ((vs[n.toNat]?.getD []).set k.toNat y) else vs
theorem ctZ_at {ct : List Int} {i : Nat} {c : Int} (h : ct[i]? = some c) : ctZ ct i = c := by
  have := (List.getElem?_eq_some_iff.1 h).1
  simp [ctZ, inN_t (n := (i : Int)) (m := ct.length) (by omega), h]
theorem hd_out {x : Sh} {cs : List St} {ct : List Int} (h1 : cs.length = x.n) (h2 : ct.length = x.n) {n : Int} (h : inN n x.n = false) : genZ cs n = 0 ∧ ctZ ct n = 0 ∧ takenZ cs n = false ∧ hdE cs n = 1 := by
  simp [genZ, ctZ, takenZ, hdE, h1, h2, h]
theorem hd_in {x : Sh} {cs : List St} (h1 : cs.length = x.n) {i : Nat} (h : i < x.n) : hdE cs i = 0 := by simp [hdE, h1, inN_t (n := (i : Int)) (m := x.n) (by omega)]
theorem hdr_back {g c : Int} (u : Bool) (hg : 0 ≤ g ∧ g ≤ 4294967295) (hc : 0 ≤ c ∧ c ≤ 2147483647) : Hd.u64ok (Hd.encZ g c u) ∧ Hd.decG (Hd.encZ g c u) = g ∧ Hd.decC (Hd.encZ g c u) = c ∧ Hd.decU (Hd.encZ g c u) = u := by
  unfold Hd.u64ok Hd.decG Hd.decC Hd.decU Hd.encZ Hd.bitZ
  cases u
  · refine ⟨by simp; omega, by simp; omega, by simp; omega, by simp; omega⟩
  · refine ⟨by simp; omega, by simp; omega, by simp; omega, by simp; omega⟩

section
variable {w w1 : World} {kb fb cb ab ac bs : Nat} {v : Nat → Value} {x : Sh} {cs : List St} {p : Nat → List Int} {L : List Int} {t t1 : Int} {ct : List Int} {vs : List (List Vl)} {L0 : List Int}
theorem CeIn.res (h : CeIn w kb fb cb v ab ac x bs cs p L t) {L1 : List Int} (h1 : CeIn w1 kb fb cb v ab ac x bs cs p L1 t1) (ho : Only [ab, ac] w w1) {w2 : World} (h2 : Only [w.heap.size] w1 w2) : CeIn w2 kb fb cb v ab ac x bs cs p L1 t1 ∧ Only [ab, ac] w w2 := by
  have hlt := h.foot_lt
  have hpos : 0 < w.heap.size := Nat.lt_of_le_of_lt (Nat.zero_le _) (hlt kb (mem_ceFoot.2 (by simp)))
  exact ⟨h1.only h2 (by simp; omega) (fun g hg => by have := hlt g hg; simp; omega), ho.trans h2 (by simp)⟩
theorem only_res3 (w1 : World) (g : Nat) (a b c : Value) : Only [g] w1 (((w1.setCell ⟨g, 0, none⟩ a).setCell ⟨g, 1, none⟩ b).setCell ⟨g, 2, none⟩ c) :=
  (((Only.refl _ _).setCell (Or.inl (by simp)) _).setCell (Or.inl (by simp)) _).setCell (Or.inl (by simp)) _
theorem only_res2 (w1 : World) (g : Nat) (a b : Value) : Only [g] w1 ((w1.setCell ⟨g, 0, none⟩ a).setCell ⟨g, 1, none⟩ b) :=
  ((Only.refl _ _).setCell (Or.inl (by simp)) _).setCell (Or.inl (by simp)) _

end
end Go.Proofs.YtdhgpmndgcggfaaGreatDoor

namespace Go.Proofs.YtdhgpmndgcggfaaGreatDoor
open Go.RowKit
attribute [local go_sem ↓] Go.wp_at_zero Go.wp_at_succ

theorem sc_out {x : Sh} {cs : List St} {ct : List Int} (h1 : cs.length = x.n) {n c : Int} (h : inN n x.n = false) : scE cs n c = 1 ∧ scC cs ct n c = ct := by simp [scE, scC, h1, h]
theorem sc_bad {cs : List St} {ct : List Int} {n c : Int} (h : decide (0 ≤ c ∧ c ≤ 2147483647) = false) : scE cs n c = 1 ∧ scC cs ct n c = ct := by simp [scE, scC, h]
theorem sc_none {x : Sh} {cs : List St} {ct : List Int} (h1 : cs.length = x.n) {n c : Int} (h : inN n x.n = true) (hc : decide (0 ≤ c ∧ c ≤ 2147483647) = true) (ht : takenZ cs n = false) : scE cs n c = 9 ∧ scC cs ct n c = ct := by simp [scE, scC, h1, h, hc, ht]
theorem sc_yes {x : Sh} {cs : List St} {ct : List Int} (h1 : cs.length = x.n) {n c : Int} (h : inN n x.n = true) (hc : decide (0 ≤ c ∧ c ≤ 2147483647) = true) (ht : takenZ cs n = true) : scE cs n c = 0 ∧ scC cs ct n c = ct.set n.toNat c := by simp [scE, scC, h1, h, hc, ht]
theorem vl_back {y : Vl} (h : y.ok) : Wd.u64ok y.w ∧ Wd.decK y.w = y.k ∧ Wd.decN y.w = y.n := by
  obtain ⟨k, n⟩ := y
  obtain ⟨h0, hr⟩ := h
  simp only at h0 hr
  unfold Vl.w
  simp only
  rcases Wd.sort4 k n with ⟨rfl, rfl⟩ | ⟨rfl, hn⟩ | ⟨rfl, hn⟩ | ⟨a, b, c⟩
  · exact ⟨by unfold Wd.u64ok; decide, rfl, rfl⟩
  · obtain ⟨e1, e2, e3⟩ := Wd.at_dat hn
    have e : Wd.encV 1 n = 2 * n + 1 := by simp [Wd.encV, e1, e2]
    rw [e]
    unfold Wd.u64ok Wd.decK Wd.decN
    refine ⟨by omega, ?_, ?_⟩
    · rw [if_neg (by omega), if_pos (by omega)]
    · rw [if_neg (by omega), if_pos (by omega)]; omega
  · obtain ⟨e1, e2, e3⟩ := Wd.at_ptr hn
    have e : Wd.encV 2 n = 2 * n + 2 := by simp [Wd.encV, e1, e2, e3]
    rw [e]
    unfold Wd.u64ok Wd.decK Wd.decN
    refine ⟨by omega, ?_, ?_⟩
    · rw [if_neg (by omega), if_neg (by omega)]
    · rw [if_neg (by omega), if_neg (by omega)]; omega
  · simp [Wd.rightB, a, b, c] at hr
theorem gt_err {x : Sh} {cs : List St} {vs : List (List Vl)} {n k : Int} (h : plE x cs n k ≠ 0) : gtV x cs vs n k = Vl.nil := by simp [gtV, h]
theorem gt_yes {x : Sh} {cs : List St} {vs : List (List Vl)} {i k : Nat} {l : List Vl} {y : Vl} (h : plE x cs i k = 0) (hl : vs[i]? = some l) (hy : l[k]? = some y) : gtV x cs vs i k = y := by simp [gtV, h, vlAt, hl, hy]
theorem pl_cases (x : Sh) (bs : Nat) (cs : List St) (n k : Int) : ((plE x cs n k == 0) = false ∧ plV x bs cs n k = 0) ∨ (plE x cs n k = 0 ∧ ∃ i j : Nat, n = i ∧ k = j ∧ i < x.n ∧ j < x.sl i ∧ takenZ cs i = true ∧ plV x bs cs n k = (bs : Int) + x.at_ i + 1 + j) := by
  cases hS : inS x n k
  · obtain ⟨e1, e2⟩ := pl_out (bs := bs) (cs := cs) hS
    exact Or.inl ⟨by rw [e1]; rfl, e2⟩
  · cases ht : takenZ cs n
    · obtain ⟨e1, e2⟩ := pl_none (bs := bs) hS ht
      exact Or.inl ⟨by rw [e1]; rfl, e2⟩
    · obtain ⟨e1, e2⟩ := pl_yes (bs := bs) hS ht
      obtain ⟨i, j, rfl, rfl, hi, hj⟩ := inS_at hS
      exact Or.inr ⟨e1, i, j, rfl, rfl, hi, hj, ht, e2⟩

end Go.Proofs.YtdhgpmndgcggfaaGreatDoor

namespace Go.Proofs.YtdhgpmndgcggfaaGreatDoor
open Go.RowKit
attribute [local go_sem ↓] Go.wp_at_zero Go.wp_at_succ

theorem st_bad {x : Sh} {cs : List St} {vs : List (List Vl)} {n k : Int} {y : Vl} (h : Wd.rightB y.k y.n = false) : stE x cs n k y = 1 ∧ stV x cs vs n k y = vs := by simp [stE, stV, h]
theorem st_err {x : Sh} {cs : List St} {vs : List (List Vl)} {n k : Int} {y : Vl} (h : Wd.rightB y.k y.n = true) (he : (plE x cs n k == 0) = false) : stE x cs n k y = plE x cs n k ∧ stV x cs vs n k y = vs := by
  have : ¬ plE x cs n k = 0 := fun e => by rw [e] at he; cases he
  simp [stE, stV, h, this]
theorem st_yes {x : Sh} {cs : List St} {vs : List (List Vl)} {i j : Nat} {y : Vl} {l : List Vl} (h : Wd.rightB y.k y.n = true) (he : plE x cs i j = 0) (hl : vs[i]? = some l) : stE x cs i j y = 0 ∧ stV x cs vs i j y = vs.set i (l.set j y) := by simp [stE, stV, h, he, hl]
def liveTo (cs : List St) : Nat → List Int
  | 0 => []
  | j + 1 => liveTo cs j ++ (if (cs[j]?.map St.t).getD false = true then [(j : Int)] else [])
theorem live_len (cs : List St) : ∀ j, (liveTo cs j).length ≤ j
  | 0 => by simp [liveTo]
  | j + 1 => by
    have := live_len cs j
    simp only [liveTo, List.length_append]
    split <;> simp <;> omega
end Go.Proofs.YtdhgpmndgcggfaaGreatDoor

namespace Go.Proofs.YtdhgpmndgcggfaaGreatDoor
open Go.RowKit
attribute [local go_sem ↓] Go.wp_at_zero Go.wp_at_succ

def frC (cs : List St) (ct : List Int) (n : Int) : List Int := if gvOk cs n = true then ct.set n.toNat 0 else ct
def frV (x : Sh) (cs : List St) (vs : List (List Vl)) (n : Int) : List (List Vl) := if gvOk cs n = true then vs.set n.toNat (nils (x.sl n.toNat)) else vs
theorem gv_ok (cs : List St) (n : Int) : (gvE cs n = 0 ∧ gvOk cs n = true ∧ ∃ (i : Nat) (z : St), n = i ∧ cs[i]? = some z ∧ z.t = true ∧ gvC cs n = cs.set i ⟨z.c, z.g + 1, false⟩) ∨ ((gvE cs n == 0) = false ∧ gvOk cs n = false ∧ gvLast cs n = false) := by
  cases hn : inN n cs.length
  · exact Or.inr (by simp [gvE, gvOk, gvLast, hn])
  · have := inN_in hn
    obtain ⟨i, rfl⟩ : ∃ i : Nat, n = i := ⟨n.toNat, by omega⟩
    obtain ⟨z, hz⟩ : ∃ z, cs[i]? = some z := ⟨_, List.getElem?_eq_getElem (by omega)⟩
    have hs : stAt cs (i : Int) = z := by simp [stAt, hz]
    cases ht : z.t
    · exact Or.inr (by simp [gvE, gvOk, gvLast, hn, hs, ht])
    · exact Or.inl ⟨by simp [gvE, hn, hs, ht], by simp [gvOk, hn, hs, ht], i, z, rfl, hz, ht, by simp [gvC, gvOk, hn, hs, ht]⟩
theorem set_same {X : Type} {l : List X} {i : Nat} {y : X} (h : l[i]? = some y) : l.set i y = l := by
  apply List.ext_getElem?
  intro j
  rw [List.getElem?_set]
  split
  · next e => subst e; rw [if_pos (List.getElem?_eq_some_iff.1 h).1, h]
  · rfl
theorem tk_ok {x : Sh} {cs : List St} {p : Nat → List Int} (hi : Inv x cs p) (n : Int) : (tkE p n = 0 ∧ ∃ (i : Nat) (z : St), tkV p n = i ∧ cs[i]? = some z ∧ z.t = false ∧ z.g < 4294967295 ∧ tkC cs p n = cs.set i ⟨z.c, z.g, true⟩) ∨ ((tkE p n == 0) = false ∧ tkV p n = 0 ∧ tkC cs p n = cs ∧ tkP p n = p) := by
  rcases take_cases p n with hn | ⟨k, rfl, hk, hp | ⟨M, i, hp⟩⟩
  · obtain ⟨e1, e2, e3, e4⟩ := tk_arg (cs := cs) (p := p) hn
    exact Or.inr ⟨by rw [e2]; rfl, e1, e3, e4⟩
  · obtain ⟨e1, e2, e3, e4⟩ := tk_full (cs := cs) hk hp
    exact Or.inr ⟨by rw [e2]; rfl, e1, e3, e4⟩
  · obtain ⟨i', z, rfl, hz, hc, ht, hg⟩ := hi.mem k hk i (by rw [hp]; simp)
    obtain ⟨e1, e2, e3, e4⟩ := tk_top hk hp hz
    exact Or.inl ⟨e2, i', z, e1, hz, ht, hg, e3⟩

section
variable {w w' : World} {kb fb cb ab ac bs : Nat} {v v' : Nat → Value} {x : Sh} {cs cs' : List St} {p p' : Nat → List Int} {L : List Int} {t : Int} {ct : List Int} {vs : List (List Vl)} {L0 : List Int}
theorem CeIn.list (h : CeIn w kb fb cb v ab ac x bs cs p L t) (hF : FrIn w' fb cb v' cs' p') (ho : Only (frFoot fb cb v) w w') (hat : ∀ g ∈ frFoot fb cb v', g ∈ frFoot fb cb v ∨ w.heap.size ≤ g) (hl : cs'.length = cs.length) : CeIn w' kb fb cb v' ab ac x bs cs' p' L t := by
  obtain ⟨n1, n2, n3, n4, n5⟩ := h.ne
  have hlt := h.foot_lt
  have hpos : 0 < w.heap.size := Nat.lt_of_le_of_lt (Nat.zero_le _) (hlt kb (mem_ceFoot.2 (by simp)))
  have new : ∀ g, g < w.heap.size → g ∉ frFoot fb cb v → g ∉ frFoot fb cb v' := fun g hg hn hm => (hat g hm).elim hn (fun e => by omega)
  have l1 := hlt kb (mem_ceFoot.2 (by simp))
  have l2 := hlt ab (mem_ceFoot.2 (by simp))
  have l3 := hlt ac (mem_ceFoot.2 (by simp))
  have z0 : 0 ∉ frFoot fb cb v := fun hm => h.low 0 (mem_ceFoot.2 (by simp [hm])) rfl
  refine ⟨h.head.only ho n3, hF, h.ar.only ho n4 n5, ⟨n1, n2, new kb l1 n3, new ab l2 n4, new ac l3 n5⟩, fun g hg => ?_, h.lay.only ho z0, h.may, hl.trans h.len, h.fit⟩
  rcases mem_ceFoot.1 hg with rfl | rfl | rfl | hg
  · exact h.low _ (mem_ceFoot.2 (by simp))
  · exact h.low _ (mem_ceFoot.2 (by simp))
  · exact h.low _ (mem_ceFoot.2 (by simp))
  · rcases hat g hg with e | e
    · exact h.low _ (mem_ceFoot.2 (by simp [e]))
    · omega
theorem CeIn.listOnly (h : CeIn w kb fb cb v ab ac x bs cs p L t) (ho : Only (frFoot fb cb v) w w') (hat : ∀ g ∈ frFoot fb cb v', g ∈ frFoot fb cb v ∨ w.heap.size ≤ g) : Only (ceFoot kb fb cb v ab ac) w w' ∧ ∀ g ∈ ceFoot kb fb cb v' ab ac, g ∈ ceFoot kb fb cb v ab ac ∨ w.heap.size ≤ g := by
  refine ⟨ho.more fun k hk => Or.inl (mem_ceFoot.2 (by simp [hk])), fun g hg => ?_⟩
  rcases mem_ceFoot.1 hg with rfl | rfl | rfl | hg
  · exact Or.inl (mem_ceFoot.2 (by simp))
  · exact Or.inl (mem_ceFoot.2 (by simp))
  · exact Or.inl (mem_ceFoot.2 (by simp))
  · exact (hat g hg).imp (fun e => mem_ceFoot.2 (by simp [e])) id
theorem ar_foot {w1 : World} (ho : Only [ab, ac] w1 w') : Only (ceFoot kb fb cb v ab ac) w1 w' := ho.more fun k hk => Or.inl (mem_ceFoot.2 (by simp at hk; rcases hk with h | h <;> simp [h]))
/-- What may have changed of the blocks F, whose part now is F'. -/
def Step (F : List Nat) (w : World) (F' : List Nat) (w' : World) : Prop := Only F w w' ∧ ∀ g ∈ F', g ∈ F ∨ w.heap.size ≤ g
theorem Step.same {F : List Nat} {w w' : World} (h : Only F w w') : Step F w F w' := ⟨h, fun _ hg => Or.inl hg⟩

end
end Go.Proofs.YtdhgpmndgcggfaaGreatDoor

namespace Go.Proofs.YtdhgpmndgcggfaaGreatDoor
open Go.RowKit
attribute [local go_sem ↓] Go.wp_at_zero Go.wp_at_succ

def ct0 (x : Sh) : List Int := List.replicate x.n 0
def vs0 (x : Sh) : List (List Vl) := (List.range x.n).map fun i => nils (x.sl i)
theorem c0_len (x : Sh) : (c0 x).length = x.n := csTo_length _ _ _ _
theorem c0_at (x : Sh) {i : Nat} (hi : i < x.n) : (c0 x)[i]? = some ⟨x.cz i, x.s, false⟩ := by
  unfold c0
  rw [csTo_at _ _ _ _ _ hi, if_pos hi]
theorem ct0_at (x : Sh) {i : Nat} (hi : i < x.n) : (ct0 x)[i]? = some 0 := by simp [ct0, hi]
theorem vs0_at (x : Sh) {i : Nat} (hi : i < x.n) : (vs0 x)[i]? = some (nils (x.sl i)) := by simp [vs0, hi]
theorem rep_start {x : Sh} {bs : Nat} {L : List Int} (hm : x.may = true) (hfit : bs + x.wd ≤ L.length) (hl : L.length ≤ 65536) : RepTo 0 x bs L (c0 x) (ct0 x) (vs0 x) L := by
  refine ⟨hm, ⟨c0_len x, by simp [ct0], by simp [vs0]⟩, ⟨hfit, rfl, hl⟩, fun i l h => ?_, fun i c h => ?_, fun i l h => ?_, fun i z hz _ => ?_, fun i z c hi => by omega, fun i l k y hi => by omega, fun _ _ => rfl⟩
  · have hi : i < x.n := by have := (List.getElem?_eq_some_iff.1 h).1; simpa [vs0] using this
    rw [vs0_at x hi] at h
    obtain rfl := Option.some.inj h
    simp [nils]
  · have hi : i < x.n := by have := (List.getElem?_eq_some_iff.1 h).1; simpa [ct0] using this
    rw [ct0_at x hi] at h
    obtain rfl := Option.some.inj h
    omega
  · have hi : i < x.n := by have := (List.getElem?_eq_some_iff.1 h).1; simpa [vs0] using this
    rw [vs0_at x hi] at h
    obtain rfl := Option.some.inj h
    intro y hy
    rw [List.eq_of_mem_replicate hy]
    exact Vl.nil_ok
  · have hi : i < x.n := by have := (List.getElem?_eq_some_iff.1 hz).1; rwa [c0_len] at this
    exact ⟨ct0_at x hi, vs0_at x hi⟩
/-- lay, of a cell of the first ones. -/
theorem rep_next {x : Sh} {bs j : Nat} {L0 L : List Int} (h : RepTo j x bs L0 (c0 x) (ct0 x) (vs0 x) L) (hj : j < x.n) : RepTo (j + 1) x bs L0 (c0 x) (ct0 x) (vs0 x) (layL x bs L j x.s false) := by
  have := h.lay (i := j) (m' := j + 1) hj ⟨x.cz j, x.s, false⟩ (fun k hk => by omega)
  rwa [set_same (c0_at x hj), set_same (ct0_at x hj), set_same (vs0_at x hj)] at this
theorem Sh.start (x : Sh) (hm : x.may = true) : 0 ≤ x.s ∧ x.s ≤ 4294967295 := by
  have h' : mayB x.a x.b x.c x.q x.s = true := hm
  obtain ⟨_, _, _, _, h⟩ := mayB_iff.1 h'
  omega
def shV (x : Sh) : Value := .agg #[.int .i64 x.a, .int .i64 x.b, .int .i64 x.c, .int .i64 x.q, .int .i64 x.s]

section
variable {w w' : World} {ab ac : Nat} {x : Sh} {L : List Int} {t : Int}
set_option maxRecDepth 100000 in
set_option maxHeartbeats 1600000 in
theorem newC_any (x : Sh) (bs : Nat) (w : World) (hl : Lay w) (ha : ArAt w 143 ab ac L t) (hm : x.may = true) (hfit : bs + x.wd ≤ L.length) (h0 : ab ≠ 0 ∧ ac ≠ 0) :
    Calls Tryz.prog 141 #[.pointer (some ⟨ab, 0, none⟩), .int .i64 bs, shV x] w fun e w' => ∃ kb, e = .returned (.tuple #[.pointer (some ⟨kb, 0, none⟩), .int .i64 0]) ∧
      ∃ fb cb v t' L', CeIn w' kb fb cb v ab ac x bs (c0 x) (p0 x) L' t' ∧ RepTo x.n x bs L (c0 x) (ct0 x) (vs0 x) L' ∧ Only [ab, ac] w w' ∧ (∀ g ∈ ceFoot kb fb cb v ab ac, g = ab ∨ g = ac ∨ w.heap.size ≤ g) := by
  have hb0 : Below w.heap.size w (w.alloc (.cells #[.int .i64 x.a, .int .i64 x.b, .int .i64 x.c, .int .i64 x.q, .int .i64 x.s] 74)) := (Below.refl _ _).alloc (Nat.le_refl _) _
  have hK : Blk (w.alloc (.cells #[.int .i64 x.a, .int .i64 x.b, .int .i64 x.c, .int .i64 x.q, .int .i64 x.s] 74)) w.heap.size 74 x.vals := Blk.new w _ _
  have HL := Lib.hid (hl.below hb0)
  have HK := Lib.hid hK
  have HA := Lib.hid (ha.only (Only.of_below (S := []) hb0) (by simp) (by simp))
  obtain ⟨hW, hW2, hn192⟩ := Sh.wd_is hm
  have hlen := ha.len
  have hlt := ha.lt
  have HW := Lib.hid hW
  have HCT := Lib.hid (x.count hm).1
  have hpos : 0 < w.heap.size := World.block_lt_of_cell? w ⟨0, 0, none⟩ hl.1
  have hfit' : ¬ ((L.length : Int) - bs < x.wd) := by omega
  have hwr : wrap64 ((L.length : Int) - bs) = (L.length : Int) - bs := wrap64_of (by unfold i64ok; omega)
  have HST := Lib.hid (rep_start hm hfit hlen)
  have hs4 := x.start hm
  clear hl hK ha hW
  unfold shV
  go_enter Tryz.func141, Tryz.ntmps141
  go_wp2_with (first
    | (go_at_call 194; refine (newL_any x _ HL.out hm).mono ?_; rintro e w1 ⟨fb, cb, v, rfl, hF, hlo, hb1⟩; have HL1 := Lib.hid (HL.out.below hb1); have hk := HK.out.below hb1 HK.out.lt; have HF := Lib.hid hF; have HLO := Lib.hid hlo; have HA1 := Lib.hid (HA.out.only (Only.of_below (S := []) hb1) (by simp) (by simp)); have s0 : w1.cell? ⟨w.heap.size, 0, none⟩ = some (.int .i64 x.a) := hk.cell rfl; have s1 : w1.cell? ⟨w.heap.size, 1, none⟩ = some (.int .i64 x.b) := hk.cell rfl; have s2 : w1.cell? ⟨w.heap.size, 2, none⟩ = some (.int .i64 x.c) := hk.cell rfl; have s3 : w1.cell? ⟨w.heap.size, 3, none⟩ = some (.int .i64 x.q) := hk.cell rfl; have s4 : w1.cell? ⟨w.heap.size, 4, none⟩ = some (.int .i64 x.s) := hk.cell rfl; have HK1 := Lib.hid hk; clear hk hF hlo)
    | (go_at_call 28; refine (words_any _ _ _ _ _ _ HL1.out).mono ?_; rw [HW.out]; rintro e w2 ⟨rfl, hb2⟩; have HA2 := Lib.hid (HA1.out.only (Only.of_below (S := []) hb2) (by simp) (by simp)); have hk := HK1.out.below hb2 HK1.out.lt; clear s0 s1 s2 s3 s4; have s0 : w2.cell? ⟨w.heap.size, 0, none⟩ = some (.int .i64 x.a) := hk.cell rfl; have s1 : w2.cell? ⟨w.heap.size, 1, none⟩ = some (.int .i64 x.b) := hk.cell rfl; have s2 : w2.cell? ⟨w.heap.size, 2, none⟩ = some (.int .i64 x.c) := hk.cell rfl; have s3 : w2.cell? ⟨w.heap.size, 3, none⟩ = some (.int .i64 x.q) := hk.cell rfl; have s4 : w2.cell? ⟨w.heap.size, 4, none⟩ = some (.int .i64 x.s) := hk.cell rfl; have k0 := fun o : Obj => (hk.alloc o).cell (i := 0) rfl; have k1 := fun o : Obj => (hk.alloc o).cell (i := 1) rfl; have k2 := fun o : Obj => (hk.alloc o).cell (i := 2) rfl; have k3 := fun o : Obj => (hk.alloc o).cell (i := 3) rfl; have k4 := fun o : Obj => (hk.alloc o).cell (i := 4) rfl; clear hk)
    | (go_at_call 195; refine (len_any ab ac L t _ HA2.out).mono ?_; rintro e w3 ⟨rfl, rfl⟩)
    | (go_at_call 133; refine (count_any _ _ _ _ _ _).mono ?_; rw [HCT.out]; rintro e w4 ⟨rfl, hb4⟩))
  have hb2w : Below w.heap.size w w2 := below_more (below_more hb0 hb1) hb2
  have hC0 : CeIn w4 w2.heap.size fb cb v ab ac x bs (c0 x) (p0 x) L t ∧ Only [ab, ac] w w4 ∧ (∀ g ∈ ceFoot w2.heap.size fb cb v ab ac, g = ab ∨ g = ac ∨ w.heap.size ≤ g) := by
    have hF2 := HF.out.more hb2
    have hlo := HLO.out
    have hsz := hb2w.size
    have hfl := hF2.foot_lt
    have hlo' : ∀ g ∈ frFoot fb cb v, w.heap.size < g := fun g hg => by have := hlo g hg; simp at this; omega
    refine ⟨CeIn.more ⟨?_, ?_, ?_, ⟨by omega, by omega, fun hm => by have := hfl _ hm; omega, fun hm => by have := hlo' _ hm; omega, fun hm => by have := hlo' _ hm; omega⟩, fun g hg => ?_, ?_, hm, c0_len x, hfit⟩ hb4, Only.of_below (below_more (hb2w.alloc hsz _) hb4), fun g hg => ?_⟩
    · exact Blk.new w2 #[.pointer (some ⟨fb, 0, none⟩), .pointer (some ⟨ab, 0, none⟩), .int .i64 bs, .int .i64 x.a, .int .i64 x.b, .int .i64 x.c, .int .i64 x.q, .int .i64 x.s] _
    · exact hF2.more ((Below.refl _ _).alloc (Nat.le_refl _) _)
    · exact HA2.out.only ((Only.refl [] _).alloc _) (by simp) (by simp)
    · rcases mem_ceFoot.1 hg with rfl | rfl | rfl | hg
      · omega
      · exact h0.1
      · exact h0.2
      · have := hlo' g hg; omega
    · exact (HL1.out.below hb2).below ((Below.refl _ _).alloc (Nat.le_refl _) _)
    · rcases mem_ceFoot.1 hg with rfl | rfl | rfl | hg
      · exact Or.inr (Or.inr hsz)
      · exact Or.inl rfl
      · exact Or.inr (Or.inl rfl)
      · exact Or.inr (Or.inr (Nat.le_of_lt (hlo' g hg)))
  have HC0 := Lib.hid hC0
  generalize w2.heap.size = kb at *
  clear hC0 hb2w hb4 hb1 hb2 HLO HF HK1 HL1 HA1 HA2 s0 s1 s2 s3 s4 k0 k1 k2 k3 k4
  go_loopw [43] (fun i wr => ∃ j : Nat, j ≤ x.n ∧ i = .int .i64 j ∧ ∃ t' L', CeIn wr kb fb cb v ab ac x bs (c0 x) (p0 x) L' t' ∧ RepTo j x bs L (c0 x) (ct0 x) (vs0 x) L' ∧ Only [ab, ac] w wr) (fun i _ => x.n - (intOf i).toNat)
  case atStart => exact ⟨0, by omega, rfl, t, L, HC0.out.1, HST.out, HC0.out.2.1⟩
  case round =>
    obtain ⟨j, hj, rfl, t', L', hC, hR, hO⟩ := hrel
    by_cases hlt : j < x.n
    · have HN := Lib.hid (rep_next hR hlt)
      clear hR
      go_wp2_with (go_at_call 196; refine (layC_any j _ hC (c0_at x hlt) hs4).mono ?_; rintro e w5 ⟨rfl, t5, h5, hO5⟩)
      go_roundw
      case rel => exact ⟨j + 1, by omega, by go_num, t5, _, h5, HN.out, hO.trans hO5 (by simp)⟩
      case measure => simp [intOf]; omega
    · have : j = x.n := by omega
      subst this
      go_wp2_with fail
      go_ret2
      exact ⟨_, rfl, _, _, _, _, _, hC, hR, hO, HC0.out.2.2⟩
end
end Go.Proofs.YtdhgpmndgcggfaaGreatDoor
