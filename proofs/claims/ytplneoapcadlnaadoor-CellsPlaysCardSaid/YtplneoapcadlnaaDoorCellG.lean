/- Cells: Alloc, Free; one state for all calls. -/
import Derived.Test.YtplneoapcadlnaaDoorCellF
namespace Go.Proofs.YtplneoapcadlnaaDoor
open Go.RowKit
attribute [local go_sem ↓] Go.wp_at_zero Go.wp_at_succ

def frC (cs : List St) (ct : List Int) (n : Int) : List Int := if gvOk cs n = true then ct.set n.toNat 0 else ct
def frV (x : Sh) (cs : List St) (vs : List (List Vl)) (n : Int) : List (List Vl) := if gvOk cs n = true then vs.set n.toNat (nils (x.sl n.toNat)) else vs
theorem gv_ok (cs : List St) (n : Int) : (gvE cs n = 0 ∧ gvOk cs n = true ∧ ∃ (i : Nat) (z : St), n = i ∧ cs[i]? = some z ∧ z.t = true ∧ gvC cs n = cs.set i ⟨z.c, z.g + 1, false⟩) ∨ ((gvE cs n == 0) = false ∧ gvOk cs n = false ∧ gvLast cs n = false) := by
  cases hn : inN n cs.length
  · exact Or.inr (by simp [gvE, gvOk, gvLast, hn])
  · have := inN_in hn
    obtain ⟨i, rfl⟩ : ∃ i : Nat, n = i := ⟨n.toNat, by omega⟩
    obtain ⟨z, hz⟩ : ∃ z, cs[i]? = some z := ⟨_, List.getElem?_eq_getElem (by omega)⟩
    have hs : stAt cs (i : Int) = z := by simp [stAt, hz]
    cases ht : z.t
    · exact Or.inr (by simp [gvE, gvOk, gvLast, hn, hs, ht])
    · exact Or.inl ⟨by simp [gvE, hn, hs, ht], by simp [gvOk, hn, hs, ht], i, z, rfl, hz, ht, by simp [gvC, gvOk, hn, hs, ht]⟩
theorem set_same {X : Type} {l : List X} {i : Nat} {y : X} (h : l[i]? = some y) : l.set i y = l := by
  apply List.ext_getElem?
  intro j
  rw [List.getElem?_set]
  split
  · next e => subst e; rw [if_pos (List.getElem?_eq_some_iff.1 h).1, h]
  · rfl
theorem tk_ok {x : Sh} {cs : List St} {p : Nat → List Int} (hi : Inv x cs p) (n : Int) : (tkE p n = 0 ∧ ∃ (i : Nat) (z : St), tkV p n = i ∧ cs[i]? = some z ∧ z.t = false ∧ z.g < 4294967295 ∧ tkC cs p n = cs.set i ⟨z.c, z.g, true⟩) ∨ ((tkE p n == 0) = false ∧ tkV p n = 0 ∧ tkC cs p n = cs ∧ tkP p n = p) := by
  rcases take_cases p n with hn | ⟨k, rfl, hk, hp | ⟨M, i, hp⟩⟩
  · obtain ⟨e1, e2, e3, e4⟩ := tk_arg (cs := cs) (p := p) hn
    exact Or.inr ⟨by rw [e2]; rfl, e1, e3, e4⟩
  · obtain ⟨e1, e2, e3, e4⟩ := tk_full (cs := cs) hk hp
    exact Or.inr ⟨by rw [e2]; rfl, e1, e3, e4⟩
  · obtain ⟨i', z, rfl, hz, hc, ht, hg⟩ := hi.mem k hk i (by rw [hp]; simp)
    obtain ⟨e1, e2, e3, e4⟩ := tk_top hk hp hz
    exact Or.inl ⟨e2, i', z, e1, hz, ht, hg, e3⟩

section
variable {w w' : World} {kb fb cb ab ac bs : Nat} {v v' : Nat → Value} {x : Sh} {cs cs' : List St} {p p' : Nat → List Int} {L : List Int} {t : Int} {ct : List Int} {vs : List (List Vl)} {L0 : List Int}
theorem CeIn.list (h : CeIn w kb fb cb v ab ac x bs cs p L t) (hF : FrIn w' fb cb v' cs' p') (ho : Only (frFoot fb cb v) w w') (hat : ∀ g ∈ frFoot fb cb v', g ∈ frFoot fb cb v ∨ w.heap.size ≤ g) (hl : cs'.length = cs.length) : CeIn w' kb fb cb v' ab ac x bs cs' p' L t := by
  obtain ⟨n1, n2, n3, n4, n5⟩ := h.ne
  have hlt := h.foot_lt
  have hpos : 0 < w.heap.size := Nat.lt_of_le_of_lt (Nat.zero_le _) (hlt kb (mem_ceFoot.2 (by simp)))
  have new : ∀ g, g < w.heap.size → g ∉ frFoot fb cb v → g ∉ frFoot fb cb v' := fun g hg hn hm => (hat g hm).elim hn (fun e => by omega)
  have l1 := hlt kb (mem_ceFoot.2 (by simp))
  have l2 := hlt ab (mem_ceFoot.2 (by simp))
  have l3 := hlt ac (mem_ceFoot.2 (by simp))
  have z0 : 0 ∉ frFoot fb cb v := fun hm => h.low 0 (mem_ceFoot.2 (by simp [hm])) rfl
  refine ⟨h.head.only ho n3, hF, h.ar.only ho n4 n5, ⟨n1, n2, new kb l1 n3, new ab l2 n4, new ac l3 n5⟩, fun g hg => ?_, h.lay.only ho z0, h.may, hl.trans h.len, h.fit⟩
  rcases mem_ceFoot.1 hg with rfl | rfl | rfl | hg
  · exact h.low _ (mem_ceFoot.2 (by simp))
  · exact h.low _ (mem_ceFoot.2 (by simp))
  · exact h.low _ (mem_ceFoot.2 (by simp))
  · rcases hat g hg with e | e
    · exact h.low _ (mem_ceFoot.2 (by simp [e]))
    · omega
theorem CeIn.listOnly (h : CeIn w kb fb cb v ab ac x bs cs p L t) (ho : Only (frFoot fb cb v) w w') (hat : ∀ g ∈ frFoot fb cb v', g ∈ frFoot fb cb v ∨ w.heap.size ≤ g) : Only (ceFoot kb fb cb v ab ac) w w' ∧ ∀ g ∈ ceFoot kb fb cb v' ab ac, g ∈ ceFoot kb fb cb v ab ac ∨ w.heap.size ≤ g := by
  refine ⟨ho.more fun k hk => Or.inl (mem_ceFoot.2 (by simp [hk])), fun g hg => ?_⟩
  rcases mem_ceFoot.1 hg with rfl | rfl | rfl | hg
  · exact Or.inl (mem_ceFoot.2 (by simp))
  · exact Or.inl (mem_ceFoot.2 (by simp))
  · exact Or.inl (mem_ceFoot.2 (by simp))
  · exact (hat g hg).imp (fun e => mem_ceFoot.2 (by simp [e])) id
theorem ar_foot {w1 : World} (ho : Only [ab, ac] w1 w') : Only (ceFoot kb fb cb v ab ac) w1 w' := ho.more fun k hk => Or.inl (mem_ceFoot.2 (by simp at hk; rcases hk with h | h <;> simp [h]))
/-- What may have changed of the blocks F, whose part now is F'. -/
def Step (F : List Nat) (w : World) (F' : List Nat) (w' : World) : Prop := Only F w w' ∧ ∀ g ∈ F', g ∈ F ∨ w.heap.size ≤ g
theorem Step.same {F : List Nat} {w w' : World} (h : Only F w w') : Step F w F w' := ⟨h, fun _ hg => Or.inl hg⟩

set_option maxRecDepth 100000 in
set_option maxHeartbeats 800000 in
theorem allocC_any (n : Int) (h : CeIn w kb fb cb v ab ac x bs cs p L t) (hr : RepTo x.n x bs L0 cs ct vs L) (hi : Inv x cs p) :
    Calls Tryd.prog 23 #[.pointer (some ⟨kb, 0, none⟩), .int .i64 n] w fun e w' => e = .returned (.tuple #[.int .i64 (tkV p n), .int .i64 (tkE p n)]) ∧
      ∃ v' t' L', CeIn w' kb fb cb v' ab ac x bs (tkC cs p n) (tkP p n) L' t' ∧ RepTo x.n x bs L0 (tkC cs p n) ct vs L' ∧ Step (ceFoot kb fb cb v ab ac) w (ceFoot kb fb cb v' ab ac) w' := by
  have c0 := h.cells.1
  have hT := take_is n h.fr hi
  have hlen := h.len
  rcases tk_ok hi n with ⟨he, i, z, hv, hz, ht, hg, hC⟩ | ⟨he, hv, hC, hP⟩
  · have hil : i < cs.length := (List.getElem?_eq_some_iff.1 hz).1
    have hzi := hi.cell i z hz
    obtain ⟨d1, d2⟩ := hr.dead i z hz ht
    have hrl := hr.lay (i := i) (m' := x.n) (by omega) ⟨z.c, z.g, true⟩ (fun j hj => Or.inl hj)
    rw [set_same d1, set_same d2] at hrl
    have hz' : (cs.set i ⟨z.c, z.g, true⟩)[i]? = some ⟨z.c, z.g, true⟩ := by rw [set_any, if_pos rfl, if_pos hil]
    rw [he, hv, hC] at hT
    rw [he, hv, hC]
    have HR := Lib.hid hrl
    have HH := Lib.hid h
    have hll : (cs.set i ⟨z.c, z.g, true⟩).length = cs.length := by simp
    generalize tkP p n = P at *
    clear hrl d1 d2 hC he hv ht hz h hr hi
    go_enter Tryd.func23, Tryd.ntmps23
    go_wp2_with (first
      | (go_at_call 61; refine hT.mono ?_; rintro e w1 ⟨rfl, v', hF1, hO1, hat1⟩; have h1 := HH.out.list hF1 hO1 hat1 hll; have hl1 := HH.out.listOnly hO1 hat1)
      | (go_at_call 35; refine (layC_any i _ h1 hz' ⟨by simp only; omega, by simp only; omega⟩).mono ?_; rintro e w2 ⟨rfl, t2, h2, hO2⟩))
    go_ret2
    exact ⟨rfl, v', t2, _, h2, HR.out, hl1.1.trans (ar_foot (kb := kb) (fb := fb) (cb := cb) (v := v) hO2) (fun k hk => Or.inl hk), hl1.2⟩
  · rw [hv, hC, hP] at hT
    rw [hv, hC, hP]
    have HR := Lib.hid hr
    have HH := Lib.hid h
    have he' : (tkE p n != 0) = true := by simp [bne, he]
    generalize tkE p n = E at *
    clear hC hP hv h hr hi
    go_enter Tryd.func23, Tryd.ntmps23
    go_wp2_with (go_at_call 61; refine hT.mono ?_; rintro e w1 ⟨rfl, v', hF1, hO1, hat1⟩; have h1 := HH.out.list hF1 hO1 hat1 rfl; have hl1 := HH.out.listOnly hO1 hat1)
    go_ret2
    exact ⟨rfl, v', _, _, h1, HR.out, hl1⟩
set_option maxRecDepth 100000 in
set_option maxHeartbeats 800000 in
theorem freeC_any (n : Int) (h : CeIn w kb fb cb v ab ac x bs cs p L t) (hr : RepTo x.n x bs L0 cs ct vs L) (hi : Inv x cs p) :
    Calls Tryd.prog 24 #[.pointer (some ⟨kb, 0, none⟩), .int .i64 n] w fun e w' => e = .returned (.tuple #[.bool (gvLast cs n), .int .i64 (gvE cs n)]) ∧
      ∃ v' t' L', CeIn w' kb fb cb v' ab ac x bs (gvC cs n) (gvP cs p n) L' t' ∧ RepTo x.n x bs L0 (gvC cs n) (frC cs ct n) (frV x cs vs n) L' ∧ Step (ceFoot kb fb cb v ab ac) w (ceFoot kb fb cb v' ab ac) w' := by
  have c0 := h.cells.1
  have hT := give_is n h.fr hi
  have hlen := h.len
  rcases gv_ok cs n with ⟨he, hok, i, z, rfl, hz, ht, hC⟩ | ⟨he, hok, hla⟩
  · have hil : i < cs.length := (List.getElem?_eq_some_iff.1 hz).1
    have hzi := hi.cell i z hz
    have hzt := hzi.2.2.2.2 ht
    have hrl := hr.lay (i := i) (m' := x.n) (by omega) ⟨z.c, z.g + 1, false⟩ (fun j hj => Or.inl hj)
    have hz' : (cs.set i ⟨z.c, z.g + 1, false⟩)[i]? = some ⟨z.c, z.g + 1, false⟩ := by rw [set_any, if_pos rfl, if_pos hil]
    have e1 : frC cs ct i = ct.set i 0 := by simp [frC, hok]
    have e2 : frV x cs vs i = vs.set i (nils (x.sl i)) := by simp [frV, hok]
    rw [he, hC] at hT
    rw [he, hC, e1, e2]
    have HR := Lib.hid hrl
    have HH := Lib.hid h
    have hll : (cs.set i ⟨z.c, z.g + 1, false⟩).length = cs.length := by simp
    generalize gvP cs p i = P at *
    generalize gvLast cs i = B at *
    clear hrl hC he hok ht hz h hr hi e1 e2
    go_enter Tryd.func24, Tryd.ntmps24
    go_wp2_with (first
      | (go_at_call 62; refine hT.mono ?_; rintro e w1 ⟨rfl, v', hF1, hO1, hat1⟩; have h1 := HH.out.list hF1 hO1 hat1 hll; have hl1 := HH.out.listOnly hO1 hat1)
      | (go_at_call 35; refine (layC_any i _ h1 hz' ⟨by simp only; omega, by simp only; omega⟩).mono ?_; rintro e w2 ⟨rfl, t2, h2, hO2⟩))
    go_ret2
    exact ⟨rfl, v', t2, _, h2, HR.out, hl1.1.trans (ar_foot (kb := kb) (fb := fb) (cb := cb) (v := v) hO2) (fun k hk => Or.inl hk), hl1.2⟩
  · have hC : gvC cs n = cs := by simp [gvC, hok]
    have hP : gvP cs p n = p := by simp [gvP, hok]
    have e1 : frC cs ct n = ct := by simp [frC, hok]
    have e2 : frV x cs vs n = vs := by simp [frV, hok]
    rw [hla, hC, hP] at hT
    rw [hla, hC, hP, e1, e2]
    have HR := Lib.hid hr
    have HH := Lib.hid h
    have he' : (gvE cs n != 0) = true := by simp [bne, he]
    generalize gvE cs n = E at *
    clear hC hP hla hok h hr hi e1 e2
    go_enter Tryd.func24, Tryd.ntmps24
    go_wp2_with (go_at_call 62; refine hT.mono ?_; rintro e w1 ⟨rfl, v', hF1, hO1, hat1⟩; have h1 := HH.out.list hF1 hO1 hat1 rfl; have hl1 := HH.out.listOnly hO1 hat1)
    go_ret2
    exact ⟨rfl, v', _, _, h1, HR.out, hl1⟩
end
end Go.Proofs.YtplneoapcadlnaaDoor
