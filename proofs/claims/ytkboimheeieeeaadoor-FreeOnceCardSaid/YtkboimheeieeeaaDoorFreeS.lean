/- FreeOnce: its state (a list, and two rows of what was taken), and plain words. -/
import Derived.Test.YtkboimheeieeeaaDoorFreeP
namespace Go.Proofs.YtkboimheeieeeaaDoor
open Go.RowKit

/-- What was taken: each pair is of an elder life, or of one that is taken still. -/
structure Hist (cs : List St) (C G : List Int) : Prop where
  len : G.length = C.length
  at_ : ∀ (k : Nat) (c g : Int), C[k]? = some c → G[k]? = some g → ∃ (i : Nat) (z : St), c = i ∧ cs[i]? = some z ∧ (g < z.g ∨ g = z.g ∧ z.t = true)
theorem Hist.nil (cs : List St) : Hist cs [] [] := ⟨rfl, fun k c g h => by simp at h⟩
theorem Hist.old {cs : List St} {C G : List Int} (h : Hist cs C G) {i : Nat} {z : St} (hz : cs[i]? = some z) (ht : z.t = false) : ∀ (k : Nat) (c g : Int), C[k]? = some c → G[k]? = some g → c = (i : Int) → g < z.g := by
  intro k c g hc hg e
  obtain ⟨j, y, e1, e2, e3⟩ := h.at_ k c g hc hg
  obtain rfl : i = j := by omega
  obtain rfl := Option.some.inj (hz.symm.trans e2)
  rcases e3 with e3 | ⟨_, e3⟩
  · exact e3
  · rw [ht] at e3; cases e3
theorem Hist.set {cs : List St} {C G : List Int} (h : Hist cs C G) {i : Nat} {z z' : St} (hz : cs[i]? = some z) (hle : z.g < z'.g ∨ z.g = z'.g ∧ z'.t = true) : Hist (cs.set i z') C G := by
  refine ⟨h.len, fun k c g hc hg => ?_⟩
  obtain ⟨j, y, e1, e2, e3⟩ := h.at_ k c g hc hg
  by_cases e : i = j
  · subst e
    obtain rfl := Option.some.inj (hz.symm.trans e2)
    refine ⟨i, z', e1, by rw [at_set hz, if_pos rfl], ?_⟩
    rcases hle with hle | ⟨hle, ht⟩
    · exact Or.inl (by omega)
    · rcases e3 with e3 | e3
      · exact Or.inl (by omega)
      · exact Or.inr ⟨by omega, ht⟩
  · exact ⟨j, y, e1, by rw [at_set hz, if_neg e]; exact e2, e3⟩
theorem Hist.push {cs : List St} {C G : List Int} (h : Hist cs C G) {i : Nat} {z : St} (hz : cs[i]? = some z) (ht : z.t = true) : Hist cs (C ++ [(i : Int)]) (G ++ [z.g]) := by
  refine ⟨by simp [h.len], fun k c g hc hg => ?_⟩
  by_cases hk : k < C.length
  · rw [List.getElem?_append_left hk] at hc
    rw [List.getElem?_append_left (by rw [h.len]; exact hk)] at hg
    exact h.at_ k c g hc hg
  · have hkl : k = C.length := by
      have := (List.getElem?_eq_some_iff.1 hc).1
      simp at this
      omega
    subst hkl
    rw [List.getElem?_append_right (Nat.le_refl _)] at hc
    rw [List.getElem?_append_right (by rw [h.len]; exact Nat.le_refl _), h.len] at hg
    simp at hc hg
    subst hc hg
    exact ⟨i, z, rfl, hz, Or.inr ⟨rfl, ht⟩⟩
def heldC (cs : List St) : Nat := cs.countP (fun z => z.c == 0 && z.t)
theorem held_le (cs : List St) : heldC cs ≤ cs.length := List.countP_le_length
theorem held_same {cs : List St} {i : Nat} {z z' : St} (hz : cs[i]? = some z) (hc : (z.c == 0) = false) (hc' : z'.c = z.c) : heldC (cs.set i z') = heldC cs := by
  have := countP_put (q := fun z => z.c == 0 && z.t) cs i z z' hz
  simp only [hc', hc] at this
  simpa [heldC] using this
theorem held_up {cs : List St} {i : Nat} {z : St} (hz : cs[i]? = some z) (hc : (z.c == 0) = true) (ht : z.t = false) : heldC (cs.set i ⟨z.c, z.g, true⟩) = heldC cs + 1 := by
  have := countP_put (q := fun z => z.c == 0 && z.t) cs i z ⟨z.c, z.g, true⟩ hz
  simp only [hc, ht] at this
  simpa [heldC] using this
theorem held_down {cs : List St} {i : Nat} {z : St} (g : Int) (hz : cs[i]? = some z) (hc : (z.c == 0) = true) (ht : z.t = true) : heldC (cs.set i ⟨z.c, g, false⟩) + 1 = heldC cs := by
  have := countP_put (q := fun z => z.c == 0 && z.t) cs i z ⟨z.c, g, false⟩ hz
  simp only [hc, ht] at this
  simpa [heldC] using this
theorem range_under (a : Nat) : ∀ n, (List.range n).countP (fun i => decide (i < a)) = min a n
  | 0 => by simp
  | n + 1 => by
    rw [List.range_succ, List.countP_append, range_under a n, List.countP_singleton]
    by_cases h : n < a
    · simp [h]; omega
    · simp [h]; omega
theorem cls0_is {x : Sh} {cs : List St} {p : Nat → List Int} (h : Inv x cs p) (hm : x.may = true) : (cs.countP (fun z => z.c == 0) : Int) = x.a := by
  have h' : mayB x.a x.b x.c x.q x.s = true := hm
  obtain ⟨ha, hb, hc, _, _⟩ := mayB_iff.1 h'
  have e1 : cs.map St.c = (List.range x.n).map (fun i : Nat => x.cz i) := by
    apply List.ext_getElem?
    intro i
    by_cases hi : i < x.n
    · obtain ⟨z, hz⟩ : ∃ z, cs[i]? = some z := ⟨_, List.getElem?_eq_getElem (by rw [h.len]; exact hi)⟩
      rw [List.getElem?_map, hz, List.getElem?_map, List.getElem?_range hi]
      simp [(h.cell i z hz).1]
    · rw [List.getElem?_eq_none (by rw [List.length_map, h.len]; omega), List.getElem?_eq_none (by simp; omega)]
  have e2 : cs.countP (fun z => z.c == 0) = (cs.map St.c).countP (· == 0) := by rw [List.countP_map]; rfl
  have e3 : ((List.range x.n).map (fun i : Nat => x.cz i)).countP (· == 0) = (List.range x.n).countP (fun i => decide (i < x.a.toNat)) := by
    rw [List.countP_map]
    apply List.countP_congr
    intro i hi
    have hin : i < x.n := List.mem_range.1 hi
    have : x.cz i = 0 ↔ i < x.a.toNat := by
      unfold Sh.cz classZ
      rw [if_pos ⟨h', by omega⟩]
      constructor
      · intro e
        by_cases hlt : (i : Int) < x.a
        · omega
        · rw [if_neg hlt] at e
          split at e
          · omega
          · split at e <;> omega
      · intro e
        rw [if_pos (by omega)]
    simp [this]
  rw [e2, e1, e3, range_under]
  unfold Sh.n
  omega
theorem countP_three {cs : List St} : (∀ z ∈ cs, z.t = true → z.g < 4294967295) → cs.countP (St.fr 0) + cs.countP (fun z => z.c == 0 && z.g == 4294967295) + heldC cs = cs.countP (fun z => z.c == 0) := by
  induction cs with
  | nil => intro _; rfl
  | cons z cs ih =>
    intro h
    have ih := ih (fun y hy => h y (by simp [hy]))
    have hz := h z (by simp)
    simp only [heldC, List.countP_cons] at ih ⊢
    cases hc : z.c == 0
    · simp only [St.fr, hc]
      simp
      exact ih
    · cases ht : z.t
      · cases hg : z.g == 4294967295
        · have hg' : (z.g != 4294967295) = true := by simp at hg ⊢; exact hg
          simp only [St.fr, hc, ht, hg']
          simp
          omega
        · have hg' : (z.g != 4294967295) = false := by simp at hg ⊢; exact hg
          simp only [St.fr, hc, ht, hg']
          simp
          omega
      · have hlt := hz ht
        have hg : (z.g == 4294967295) = false := by simp; omega
        simp only [St.fr, hc, ht, hg]
        simp
        omega
theorem whole_sum {x : Sh} {cs : List St} {p : Nat → List Int} (h : Inv x cs p) (hm : x.may = true) : freeZ p 0 + retZ cs 0 + (heldC cs : Int) = x.a ∧ 0 ≤ freeZ p 0 ∧ 0 ≤ retZ cs 0 ∧ freeZ p 0 ≤ cs.length ∧ retZ cs 0 ≤ cs.length := by
  have h3 := countP_three (cs := cs) (fun z hz => by
    obtain ⟨i, hi⟩ := List.mem_iff_getElem?.1 hz
    exact (h.cell i z hi).2.2.2.2)
  have h4 := cls0_is h hm
  have h5 := h.cnt 0 (by omega)
  have e1 : freeZ p 0 = (p 0).length := rfl
  have e2 : retZ cs 0 = cs.countP (fun z => z.c == 0 && z.g == 4294967295) := rfl
  have l1 : cs.countP (St.fr 0) ≤ cs.length := List.countP_le_length
  have l2 : cs.countP (fun z => z.c == 0 && z.g == 4294967295) ≤ cs.length := List.countP_le_length
  have h5' : (p 0).length = cs.countP (St.fr 0) := h5
  rw [e1, e2]
  omega

/-! The state. -/
structure OSt (w0 : World) (hb cb : Nat) (v : Nat → Value) (x : Sh) (cs : List St) (p : Nat → List Int) (uc ug : Value) (C G : List Int) (w : World) : Prop where
  fr : FrIn w hb cb v cs p
  inv : Inv x cs p
  oc : Own w uc C
  og : Own w ug G
  lo : ∀ g ∈ frFoot hb cb v, w0.heap.size ≤ g
  loc : ∀ g, uc.ownBlock = some g → w0.heap.size ≤ g ∧ g ∉ frFoot hb cb v
  log : ∀ g, ug.ownBlock = some g → w0.heap.size ≤ g ∧ g ∉ frFoot hb cb v
  ne : ∀ g, uc.ownBlock = some g → ug.ownBlock ≠ some g
  lay : Lay w
  lay0 : Lay w0
  below : Below w0.heap.size w0 w
def OS (w0 : World) (hb : Nat) (x : Sh) (cs : List St) (p : Nat → List Int) (uc ug : Value) (C G : List Int) (w : World) : Prop := ∃ cb v, OSt w0 hb cb v x cs p uc ug C G w
section
variable {w0 w w' : World} {hb cb : Nat} {v : Nat → Value} {x : Sh} {cs : List St} {p : Nat → List Int} {uc ug : Value} {C G : List Int}
theorem OSt.swap (h : OSt w0 hb cb v x cs p uc ug C G w) : OSt w0 hb cb v x cs p ug uc G C w :=
  ⟨h.fr, h.inv, h.og, h.oc, h.lo, h.log, h.loc, fun g hg e => h.ne g e hg, h.lay, h.lay0, h.below⟩
theorem OS.swap (h : OS w0 hb x cs p uc ug C G w) : OS w0 hb x cs p ug uc G C w := by
  obtain ⟨cb, v, h⟩ := h
  exact ⟨cb, v, h.swap⟩
theorem OSt.only {S : List Nat} (h : OSt w0 hb cb v x cs p uc ug C G w) (ho : Only S w w') (h0 : ∀ g ∈ S, w0.heap.size ≤ g) (h1 : ∀ g ∈ frFoot hb cb v, g ∉ S) (h2 : ∀ g, uc.ownBlock = some g → g ∉ S) (h3 : ∀ g, ug.ownBlock = some g → g ∉ S) : OSt w0 hb cb v x cs p uc ug C G w' := by
  have hB : Below w0.heap.size w0 w' := h.below.trans (ho.below h.below.size h0)
  exact ⟨h.fr.only ho h1, h.inv, h.oc.only ho h2, h.og.only ho h3, h.lo, h.loc, h.log, h.ne, h.lay0.below hB, h.lay0, hB⟩
theorem OS.more (h : OS w0 hb x cs p uc ug C G w) (hb' : Below w.heap.size w w') : OS w0 hb x cs p uc ug C G w' := by
  obtain ⟨cb, v, h⟩ := h
  exact ⟨cb, v, h.only (Only.of_below (S := []) hb') (by simp) (by simp) (by simp) (by simp)⟩
theorem OS.drew (h : OS w0 hb x cs p uc ug C G w) : OS w0 hb x cs p uc ug C G w.drew := h.more (Below.refl _ _).drew
theorem OS.drewN (h : OS w0 hb x cs p uc ug C G w) (n : Nat) : OS w0 hb x cs p uc ug C G (w.drewN n) := h.more (below_drewN (Below.refl _ _) n)
theorem OS.below (h : OS w0 hb x cs p uc ug C G w) : Below w0.heap.size w0 w := by
  obtain ⟨cb, v, h⟩ := h
  exact h.below
theorem OS.lay (h : OS w0 hb x cs p uc ug C G w) : Lay w := by
  obtain ⟨cb, v, h⟩ := h
  exact h.lay
theorem OS.inv (h : OS w0 hb x cs p uc ug C G w) : Inv x cs p := by
  obtain ⟨cb, v, h⟩ := h
  exact h.inv
theorem OS.len (h : OS w0 hb x cs p uc ug C G w) : cs.length ≤ 192 := by
  obtain ⟨cb, v, h⟩ := h
  exact h.fr.len
theorem OS.oc (h : OS w0 hb x cs p uc ug C G w) : Own w uc C := by
  obtain ⟨cb, v, h⟩ := h
  exact h.oc
theorem OS.og (h : OS w0 hb x cs p uc ug C G w) : Own w ug G := by
  obtain ⟨cb, v, h⟩ := h
  exact h.og
theorem os_of (h : P1 w0 hb x cs p w) : OS w0 hb x cs p (.slice none 0 0) (.slice none 0 0) [] [] w := by
  obtain ⟨cb, v, hF, hI, hlo, hl, hl0, hB⟩ := h
  exact ⟨cb, v, hF, hI, Own.nil _, Own.nil _, hlo, fun g hg => by simp [Value.ownBlock] at hg, fun g hg => by simp [Value.ownBlock] at hg, fun g hg => by simp [Value.ownBlock] at hg, hl, hl0, hB⟩
theorem os_gen (n : Int) (h : OS w0 hb x cs p uc ug C G w) : Calls Tryd.prog 13 #[.pointer (some ⟨hb, 0, none⟩), .int .i64 n] w fun e w' => e = .returned (.int .i64 (genZ cs n)) ∧ w = w' := by
  obtain ⟨cb, v, h⟩ := h
  exact gen_any n h.fr
theorem os_taken (n : Int) (h : OS w0 hb x cs p uc ug C G w) : Calls Tryd.prog 15 #[.pointer (some ⟨hb, 0, none⟩), .int .i64 n] w fun e w' => e = .returned (.bool (takenZ cs n)) ∧ w = w' := by
  obtain ⟨cb, v, h⟩ := h
  exact taken_any n h.fr
theorem os_free (n : Int) (h : OS w0 hb x cs p uc ug C G w) : Calls Tryd.prog 17 #[.pointer (some ⟨hb, 0, none⟩), .int .i64 n] w fun e w' => e = .returned (.int .i64 (freeZ p n)) ∧ w = w' := by
  obtain ⟨cb, v, h⟩ := h
  exact free_any n h.fr
theorem os_retired (n : Int) (h : OS w0 hb x cs p uc ug C G w) : Calls Tryd.prog 19 #[.pointer (some ⟨hb, 0, none⟩), .int .i64 n] w fun e w' => e = .returned (.int .i64 (retZ cs n)) ∧ OS w0 hb x cs p uc ug C G w' := by
  have h' := h
  obtain ⟨cb, v, h⟩ := h
  exact (retired_any n h.fr).mono fun _ _ ⟨he, hb⟩ => ⟨he, h'.more hb⟩
theorem os_alive (h : OS w0 hb x cs p uc ug C G w) : Calls Tryd.prog 5 #[] w fun e w' => e = .returned (.bool true) ∧ OS w0 hb x cs p uc ug C G w' :=
  (alive_any w h.lay).mono fun _ _ ⟨he, hb⟩ => ⟨he, h.more hb⟩
theorem os_class (n : Int) (h : OS w0 hb x cs p uc ug C G w) : Calls Tryd.prog 21 #[.agg #[.int .i64 x.a, .int .i64 x.b, .int .i64 x.c, .int .i64 x.q, .int .i64 x.s], .int .i64 n] w fun e w' => e = .returned (.int .i64 (x.cz n)) ∧ OS w0 hb x cs p uc ug C G w' := by
  have e : x.cz n = rclassZ x.a x.b x.c x.q x.s n := (rclass_eq ..).symm
  rw [e]
  exact (rclass_any _ _ _ _ _ _ _).mono fun _ _ ⟨he, hb⟩ => ⟨he, h.more hb⟩
theorem OSt.acted {cs' : List St} {p' : Nat → List Int} {v' : Nat → Value} (h : OSt w0 hb cb v x cs p uc ug C G w) (hF : FrIn w' hb cb v' cs' p') (hI : Inv x cs' p') (ho : Only (frFoot hb cb v) w w') (hat : ∀ g ∈ frFoot hb cb v', g ∈ frFoot hb cb v ∨ w.heap.size ≤ g) : OSt w0 hb cb v' x cs' p' uc ug C G w' := by
  have hB : Below w0.heap.size w0 w' := h.below.trans (ho.below h.below.size h.lo)
  refine ⟨hF, hI, h.oc.only ho (fun g hg => (h.loc g hg).2), h.og.only ho (fun g hg => (h.log g hg).2), fun g hg => (hat g hg).elim (h.lo g) (fun h' => Nat.le_trans h.below.size h'), fun g hg => ⟨(h.loc g hg).1, fun hm => ?_⟩, fun g hg => ⟨(h.log g hg).1, fun hm => ?_⟩, h.ne, h.lay0.below hB, h.lay0, hB⟩
  · rcases hat g hm with e | e
    · exact (h.loc g hg).2 e
    · have := h.oc.lt hg; omega
  · rcases hat g hm with e | e
    · exact (h.log g hg).2 e
    · have := h.og.lt hg; omega
theorem os_take (n : Int) (h : OS w0 hb x cs p uc ug C G w) : Calls Tryd.prog 11 #[.pointer (some ⟨hb, 0, none⟩), .int .i64 n] w fun e w' => e = .returned (.tuple #[.int .i64 (tkV p n), .int .i64 (tkE p n)]) ∧ OS w0 hb x (tkC cs p n) (tkP p n) uc ug C G w' := by
  obtain ⟨cb, v, h⟩ := h
  exact (take_is n h.fr h.inv).mono fun e w' ⟨he, v', hF', ho, hat⟩ => ⟨he, cb, v', h.acted hF' (h.inv.tk n) ho hat⟩
theorem os_give (n : Int) (h : OS w0 hb x cs p uc ug C G w) : Calls Tryd.prog 9 #[.pointer (some ⟨hb, 0, none⟩), .int .i64 n] w fun e w' => e = .returned (.tuple #[.bool (gvLast cs n), .int .i64 (gvE cs n)]) ∧ OS w0 hb x (gvC cs n) (gvP cs p n) uc ug C G w' := by
  obtain ⟨cb, v, h⟩ := h
  exact (give_is n h.fr h.inv).mono fun e w' ⟨he, v', hF', ho, hat⟩ => ⟨he, cb, v', h.acted hF' (h.inv.gv n) ho hat⟩
theorem OS.push {w1 : World} {o : Obj} {g' cap' n cap : Nat} {A : Option Addr} {i : Int} (h : OS w0 hb x cs p (.slice A n cap) ug C G w) (hn : C.length = n)
    (hown : w1.ownsRow 0 3 1 (.slice (some ⟨g', 0, none⟩) (n + 1) cap') (n + 1) (vals C ++ [.int .i64 i])) (hgrow : (w.alloc o).grownBy w1 (Value.slice A n cap).ownBlock) (hat : (Value.slice A n cap).ownBlock = some g' ∨ g' = w.heap.size + 1) :
    OS w0 hb x cs p (.slice (some ⟨g', 0, none⟩) (n + 1) cap') ug (C ++ [i]) G w1 := by
  obtain ⟨cb, v, h⟩ := h
  have hsz := h.below.size
  have hg1 : Only (Value.slice A n cap).ownBlock.toList w w1 := ((Only.refl _ w).alloc o).trans (Only.of_grown hgrow (S := (Value.slice A n cap).ownBlock.toList) (fun g hg => by simpa using hg)) (fun g hg => Or.inl hg)
  have hw2 : Own w1 (.slice (some ⟨g', 0, none⟩) (n + 1) cap') (C ++ [i]) := by
    show w1.ownsRow 0 3 1 _ (C ++ [i]).length (vals (C ++ [i]))
    rw [vals_snoc, List.length_append, hn]
    exact hown
  have hat' : ∀ g, (Value.slice (some ⟨g', 0, none⟩) (n + 1) cap').ownBlock = some g → (Value.slice A n cap).ownBlock = some g ∨ w.heap.size ≤ g := fun g hg => by
    have e : g' = g := by simpa [Value.ownBlock] using hg
    subst e
    exact hat.imp id (fun h => by omega)
  have hB : Below w0.heap.size w0 w1 := h.below.trans (hg1.below hsz (fun k hk => (h.loc k (by simpa using hk)).1))
  refine ⟨cb, v, h.fr.only hg1 (fun g hg hm => (h.loc g (by simpa using hm)).2 hg), h.inv, hw2, h.og.only hg1 (fun g hg hm => h.ne g (by simpa using hm) hg), h.lo, fun g hg => ?_, h.log, fun g hg e => ?_, h.lay0.below hB, h.lay0, hB⟩
  · rcases hat' g hg with e | e
    · exact h.loc g e
    · exact ⟨by omega, fun hm => by have := h.fr.foot_lt g hm; omega⟩
  · rcases hat' g hg with e' | e'
    · exact h.ne g e' e
    · have := h.og.lt e; omega
end
end Go.Proofs.YtkboimheeieeeaaDoor
