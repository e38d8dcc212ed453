/- Plain words for a list of free cells: what holds of it, and of the document's beside it. -/
import Derived.Test.YtplneoapcadlnaaDoorFreeF
import Derived.Test.YtplneoapcadlnaaDoorFreeH
import Derived.Test.YtplneoapcadlnaaDoorLayConf
namespace Go.Proofs.YtplneoapcadlnaaDoor
open Go.RowKit

/-- What the document says that a cell is. -/
def St.s (z : St) : Int := if z.t = true then 1 else if z.g = 4294967295 then 2 else 0
/-- Is it a free one of class k? -/
def St.fr (k : Int) (z : St) : Bool := z.c == k && !z.t && z.g != 4294967295
def St.any (z : St) : Bool := !z.t && z.g != 4294967295
structure Inv (x : Sh) (cs : List St) (p : Nat → List Int) : Prop where
  len : cs.length = x.n
  cell : ∀ (i : Nat) (z : St), cs[i]? = some z → z.c = x.cz i ∧ (0 ≤ z.c ∧ z.c < 3) ∧ 1 ≤ z.g ∧ z.g ≤ 4294967295 ∧ (z.t = true → z.g < 4294967295)
  mem : ∀ k, k < 3 → ∀ y ∈ p k, ∃ (i : Nat) (z : St), y = i ∧ cs[i]? = some z ∧ z.c = k ∧ z.t = false ∧ z.g < 4294967295
  nodup : ∀ k, k < 3 → (p k).Nodup
  cnt : ∀ k, k < 3 → (p k).length = cs.countP (St.fr k)
structure Sim (x : Sh) (cs : List St) (p : Nat → List Int) (pl : List Int) : Prop where
  inv : Inv x cs p
  pile : ∀ k, k < 3 → p k = pl.filter (fun y => x.cz y == (k : Int))
  rng : ∀ y ∈ pl, ∃ i : Nat, y = i ∧ i < cs.length
  plen : pl.length = cs.countP St.any

theorem countP_put {q : St → Bool} : ∀ (l : List St) (i : Nat) (z z' : St), l[i]? = some z → (l.set i z').countP q + (if q z = true then 1 else 0) = l.countP q + (if q z' = true then 1 else 0)
  | y :: l, 0, z, z', h => by
    simp only [List.getElem?_cons_zero, Option.some.injEq] at h
    subst h
    simp only [List.set_cons_zero, List.countP_cons]
    omega
  | y :: l, i + 1, z, z', h => by
    have := countP_put (q := q) l i z z' (by simpa using h)
    simp only [List.set_cons_succ, List.countP_cons]
    omega
theorem at_set {l : List St} {i : Nat} {z z' : St} (h : l[i]? = some z) (j : Nat) : (l.set i z')[j]? = if i = j then some z' else l[j]? := by
  have hi := (List.getElem?_eq_some_iff.1 h).1
  rw [List.getElem?_set]
  by_cases e : i = j
  · subst e; simp [hi]
  · simp [e]
section
variable {x : Sh} {cs : List St} {p : Nat → List Int} {pl : List Int}
theorem Inv.small (h : Inv x cs p) {k : Nat} (hk : k < 3) : (p k).length ≤ cs.length := by rw [h.cnt k hk]; exact List.countP_le_length
theorem Sim.small (h : Sim x cs p pl) : pl.length ≤ cs.length := by rw [h.plen]; exact List.countP_le_length
theorem fr_no {k : Int} {z : St} (h : z.t = true ∨ z.g = 4294967295 ∨ z.c ≠ k) : St.fr k z = false := by
  unfold St.fr
  rcases h with h | h | h
  · simp [h]
  · simp [h]
  · have : (z.c == k) = false := by simpa using h
    simp [this]
theorem fr_yes {k : Int} {z : St} (h1 : z.c = k) (h2 : z.t = false) (h3 : z.g < 4294967295) : St.fr k z = true := by
  have : (z.g != 4294967295) = true := by simp; omega
  simp [St.fr, h1, h2, this]
/-- A free cell is taken. -/
theorem Inv.take (h : Inv x cs p) {k i : Nat} (hk : k < 3) {M : List Int} {z : St} (hp : p k = M ++ [(i : Int)]) (hz : cs[i]? = some z) : Inv x (cs.set i ⟨z.c, z.g, true⟩) (upd p k M) := by
  obtain ⟨i', z', e, hz', hc, ht, hg⟩ := h.mem k hk i (by rw [hp]; simp)
  obtain rfl : i = i' := by omega
  obtain rfl : z = z' := Option.some.inj (hz.symm.trans hz')
  have hcl := h.cell i z hz
  have hnd := h.nodup k hk
  rw [hp, List.nodup_append] at hnd
  refine ⟨by rw [List.length_set]; exact h.len, fun j y hy => ?_, fun m hm y hy => ?_, fun m hm => ?_, fun m hm => ?_⟩
  · rw [at_set hz] at hy
    by_cases e : i = j
    · rw [if_pos e] at hy
      obtain rfl := Option.some.inj hy
      subst e
      exact ⟨hcl.1, hcl.2.1, hcl.2.2.1, hcl.2.2.2.1, fun _ => hg⟩
    · rw [if_neg e] at hy
      exact h.cell j y hy
  · have key : ∃ (j : Nat) (y' : St), y = j ∧ cs[j]? = some y' ∧ y'.c = m ∧ y'.t = false ∧ y'.g < 4294967295 ∧ i ≠ j := by
      by_cases e : m = k
      · subst e
        rw [upd_same] at hy
        obtain ⟨j, y', e1, e2, e3, e4, e5⟩ := h.mem m hm y (by rw [hp]; simp [hy])
        refine ⟨j, y', e1, e2, e3, e4, e5, fun e => ?_⟩
        subst e
        exact hnd.2.2 y hy (i : Int) (by simp) e1
      · rw [upd_ne _ _ e] at hy
        obtain ⟨j, y', e1, e2, e3, e4, e5⟩ := h.mem m hm y hy
        refine ⟨j, y', e1, e2, e3, e4, e5, fun e' => ?_⟩
        subst e'
        have := Option.some.inj (hz.symm.trans e2)
        subst this
        omega
    obtain ⟨j, y', e1, e2, e3, e4, e5, e6⟩ := key
    exact ⟨j, y', e1, by rw [at_set hz, if_neg e6]; exact e2, e3, e4, e5⟩
  · by_cases e : m = k
    · subst e; rw [upd_same]; exact hnd.1
    · rw [upd_ne _ _ e]; exact h.nodup m hm
  · have hset := countP_put (q := St.fr m) cs i z ⟨z.c, z.g, true⟩ hz
    rw [fr_no (z := ⟨z.c, z.g, true⟩) (Or.inl rfl)] at hset
    have hcm := h.cnt m hm
    by_cases e : m = k
    · subst e
      rw [upd_same]
      rw [fr_yes hc ht hg] at hset
      rw [hp] at hcm
      simp at hset hcm
      omega
    · rw [upd_ne _ _ e]
      rw [fr_no (Or.inr (Or.inr (by omega)))] at hset
      simp at hset
      omega
/-- A taken one is given, and lies on its pile. -/
theorem Inv.back (h : Inv x cs p) {k i : Nat} (hk : k < 3) {z : St} (hz : cs[i]? = some z) (hc : z.c = k) (ht : z.t = true) (hg : z.g < 4294967294) : Inv x (cs.set i ⟨z.c, z.g + 1, false⟩) (upd p k (p k ++ [(i : Int)])) := by
  have hcl := h.cell i z hz
  have out : ∀ m, m < 3 → ∀ y ∈ p m, ∃ (j : Nat) (y' : St), y = j ∧ cs[j]? = some y' ∧ y'.c = m ∧ y'.t = false ∧ y'.g < 4294967295 ∧ i ≠ j := fun m hm y hy => by
    obtain ⟨j, y', e1, e2, e3, e4, e5⟩ := h.mem m hm y hy
    refine ⟨j, y', e1, e2, e3, e4, e5, fun e => ?_⟩
    subst e
    have := Option.some.inj (hz.symm.trans e2)
    subst this
    rw [ht] at e4
    cases e4
  refine ⟨by rw [List.length_set]; exact h.len, fun j y hy => ?_, fun m hm y hy => ?_, fun m hm => ?_, fun m hm => ?_⟩
  · rw [at_set hz] at hy
    by_cases e : i = j
    · rw [if_pos e] at hy
      obtain rfl := Option.some.inj hy
      subst e
      exact ⟨hcl.1, hcl.2.1, by simp; omega, by simp; omega, by simp⟩
    · rw [if_neg e] at hy
      exact h.cell j y hy
  · have old : y ∈ p m → ∃ (j : Nat) (y' : St), y = j ∧ (cs.set i ⟨z.c, z.g + 1, false⟩)[j]? = some y' ∧ y'.c = m ∧ y'.t = false ∧ y'.g < 4294967295 := fun hy => by
      obtain ⟨j, y', e1, e2, e3, e4, e5, e6⟩ := out m hm y hy
      exact ⟨j, y', e1, by rw [at_set hz, if_neg e6]; exact e2, e3, e4, e5⟩
    by_cases e : m = k
    · subst e
      rw [upd_same] at hy
      rcases List.mem_append.1 hy with hy | hy
      · exact old hy
      · obtain rfl : y = i := by simpa using hy
        exact ⟨i, ⟨z.c, z.g + 1, false⟩, rfl, by rw [at_set hz, if_pos rfl], hc, rfl, by simp; omega⟩
    · rw [upd_ne _ _ e] at hy
      exact old hy
  · by_cases e : m = k
    · subst e
      rw [upd_same, List.nodup_append]
      refine ⟨h.nodup m hm, by simp, fun y hy y' hy' e => ?_⟩
      obtain rfl : y' = i := by simpa using hy'
      obtain ⟨j, _, e1, _, _, _, _, e6⟩ := out m hm y hy
      omega
    · rw [upd_ne _ _ e]; exact h.nodup m hm
  · have hset := countP_put (q := St.fr m) cs i z ⟨z.c, z.g + 1, false⟩ hz
    rw [fr_no (z := z) (Or.inl ht)] at hset
    have hcm := h.cnt m hm
    by_cases e : m = k
    · subst e
      rw [upd_same, List.length_append]
      rw [fr_yes (z := ⟨z.c, z.g + 1, false⟩) hc rfl (by simp; omega)] at hset
      simp at hset ⊢
      omega
    · rw [upd_ne _ _ e]
      rw [fr_no (z := ⟨z.c, z.g + 1, false⟩) (Or.inr (Or.inr (by simp; omega)))] at hset
      simp at hset
      omega
/-- A taken one is given for the last time. -/
theorem Inv.gone (h : Inv x cs p) {i : Nat} {z : St} (hz : cs[i]? = some z) (ht : z.t = true) : Inv x (cs.set i ⟨z.c, 4294967295, false⟩) p := by
  have hcl := h.cell i z hz
  refine ⟨by rw [List.length_set]; exact h.len, fun j y hy => ?_, fun m hm y hy => ?_, h.nodup, fun m hm => ?_⟩
  · rw [at_set hz] at hy
    by_cases e : i = j
    · rw [if_pos e] at hy
      obtain rfl := Option.some.inj hy
      subst e
      exact ⟨hcl.1, hcl.2.1, by simp, by simp, by simp⟩
    · rw [if_neg e] at hy
      exact h.cell j y hy
  · obtain ⟨j, y', e1, e2, e3, e4, e5⟩ := h.mem m hm y hy
    refine ⟨j, y', e1, ?_, e3, e4, e5⟩
    rw [at_set hz, if_neg (fun e => ?_)]
    · exact e2
    · subst e
      have := Option.some.inj (hz.symm.trans e2)
      subst this
      rw [ht] at e4
      cases e4
  · have hset := countP_put (q := St.fr m) cs i z ⟨z.c, 4294967295, false⟩ hz
    rw [fr_no (z := z) (Or.inl ht), fr_no (z := ⟨z.c, 4294967295, false⟩) (Or.inr (Or.inl rfl))] at hset
    simp at hset
    rw [h.cnt m hm, hset]

/-! The two side by side. -/
theorem Sim.none (h : Sim x cs p pl) {k : Nat} (hk : k < 3) (hp : p k = []) : ∀ y ∈ pl, (rclassZ x.a x.b x.c x.q x.s y == k) = false := by
  intro y hy
  rw [h.pile k hk, List.filter_eq_nil_iff] at hp
  have := hp y hy
  rw [rclass_eq]
  simpa [Sh.cz] using this
theorem Sim.last (h : Sim x cs p pl) {k : Nat} (hk : k < 3) {M : List Int} {i : Int} (hp : p k = M ++ [i]) :
    ∃ A B, pl = A ++ i :: B ∧ (rclassZ x.a x.b x.c x.q x.s i == k) = true ∧ (∀ y ∈ B, (rclassZ x.a x.b x.c x.q x.s y == k) = false) ∧ A.filter (fun y => x.cz y == (k : Int)) = M := by
  rw [h.pile k hk, List.filter_eq_append_iff] at hp
  obtain ⟨L1, L2, rfl, h1, h2⟩ := hp
  rw [List.filter_eq_cons_iff] at h2
  obtain ⟨L3, L4, rfl, h3, h4, h5⟩ := h2
  refine ⟨L1 ++ L3, L4, by simp, by rw [rclass_eq]; exact h4, fun y hy => ?_, ?_⟩
  · have := List.filter_eq_nil_iff.1 h5 y hy
    rw [rclass_eq]
    simpa [Sh.cz] using this
  · rw [List.filter_append, h1, List.filter_eq_nil_iff.2 h3, List.append_nil]
theorem any_no {z : St} (h : z.t = true ∨ z.g = 4294967295) : z.any = false := by
  unfold St.any
  rcases h with h | h <;> simp [h]
theorem any_yes {z : St} (h2 : z.t = false) (h3 : z.g < 4294967295) : z.any = true := by
  have : (z.g != 4294967295) = true := by simp; omega
  simp [St.any, h2, this]
theorem Sim.take (h : Sim x cs p pl) {k i : Nat} (hk : k < 3) {M A B : List Int} {z : St} (hp : p k = M ++ [(i : Int)]) (hz : cs[i]? = some z) (hL : pl = A ++ (i : Int) :: B) (hA : A.filter (fun y => x.cz y == (k : Int)) = M) (hno : ∀ y ∈ B, (rclassZ x.a x.b x.c x.q x.s y == k) = false) :
    Sim x (cs.set i ⟨z.c, z.g, true⟩) (upd p k M) (A ++ B) := by
  obtain ⟨i', z', e, hz', hc, ht, hg⟩ := h.inv.mem k hk i (by rw [hp]; simp)
  obtain rfl : i = i' := by omega
  obtain rfl : z = z' := Option.some.inj (hz.symm.trans hz')
  have hcl := h.inv.cell i z hz
  refine ⟨h.inv.take hk hp hz, fun m hm => ?_, fun y hy => ?_, ?_⟩
  · by_cases e : m = k
    · subst e
      rw [upd_same, List.filter_append, hA, List.filter_eq_nil_iff.2, List.append_nil]
      intro y hy
      have := hno y hy
      rw [rclass_eq] at this
      simpa [Sh.cz] using this
    · rw [upd_ne _ _ e, h.pile m hm, hL, List.filter_append, List.filter_append, List.filter_cons_of_neg]
      have : x.cz i = k := by rw [← hcl.1]; exact hc
      simp [this]
      omega
  · obtain ⟨j, e1, e2⟩ := h.rng y (by rw [hL]; rcases List.mem_append.1 hy with h | h <;> simp [h])
    exact ⟨j, e1, by rw [List.length_set]; exact e2⟩
  · have hset := countP_put (q := St.any) cs i z ⟨z.c, z.g, true⟩ hz
    rw [any_no (z := ⟨z.c, z.g, true⟩) (Or.inl rfl), any_yes ht hg] at hset
    have hl := h.plen
    rw [hL] at hl
    simp at hset hl ⊢
    omega
theorem Sim.back (h : Sim x cs p pl) {k i : Nat} (hk : k < 3) {z : St} (hz : cs[i]? = some z) (hc : z.c = k) (ht : z.t = true) (hg : z.g < 4294967294) : Sim x (cs.set i ⟨z.c, z.g + 1, false⟩) (upd p k (p k ++ [(i : Int)])) (pl ++ [(i : Int)]) := by
  have hcl := h.inv.cell i z hz
  have hil := (List.getElem?_eq_some_iff.1 hz).1
  have hci : x.cz i = k := by rw [← hcl.1]; exact hc
  refine ⟨h.inv.back hk hz hc ht hg, fun m hm => ?_, fun y hy => ?_, ?_⟩
  · rw [List.filter_append]
    by_cases e : m = k
    · subst e
      rw [upd_same, h.pile m hm, List.filter_cons_of_pos (by simp [hci]), List.filter_nil]
    · rw [upd_ne _ _ e, h.pile m hm, List.filter_cons_of_neg (by simp [hci]; omega), List.filter_nil, List.append_nil]
  · rw [List.length_set]
    rcases List.mem_append.1 hy with hy | hy
    · exact h.rng y hy
    · exact ⟨i, by simpa using hy, hil⟩
  · have hset := countP_put (q := St.any) cs i z ⟨z.c, z.g + 1, false⟩ hz
    rw [any_no (z := z) (Or.inl ht), any_yes (z := ⟨z.c, z.g + 1, false⟩) rfl (by simp; omega)] at hset
    have hl := h.plen
    simp at hset ⊢
    omega
theorem Sim.gone (h : Sim x cs p pl) {i : Nat} {z : St} (hz : cs[i]? = some z) (ht : z.t = true) : Sim x (cs.set i ⟨z.c, 4294967295, false⟩) p pl := by
  refine ⟨h.inv.gone hz ht, h.pile, fun y hy => by rw [List.length_set]; exact h.rng y hy, ?_⟩
  have hset := countP_put (q := St.any) cs i z ⟨z.c, 4294967295, false⟩ hz
  rw [any_no (z := z) (Or.inl ht), any_no (z := ⟨z.c, 4294967295, false⟩) (Or.inr rfl)] at hset
  have hl := h.plen
  simp at hset
  omega

/-! What is asked of both. -/
theorem rgen_is (cs : List St) (n : Int) : rgenZ (cs.map St.g) n = genZ cs n := by
  unfold rgenZ genZ
  rw [List.length_map, List.getElem?_map]
theorem rtaken_is (cs : List St) (n : Int) : rtakenZ (cs.map St.s) n = takenZ cs n := by
  unfold rtakenZ takenZ
  rw [List.length_map, List.getElem?_map]
  cases hz : cs[n.toNat]? with
  | none => simp
  | some z =>
    cases ht : z.t
    · by_cases hg : z.g = 4294967295 <;> simp [St.s, ht, hg]
    · simp [St.s, ht]
theorem cntTo_is (h : Inv x cs p) (k s : Int) : ∀ m, m ≤ cs.length → cntTo x (cs.map St.s) k s m = (cs.take m).countP (fun z => z.s == s && z.c == k)
  | 0, _ => by simp [cntTo]
  | m + 1, hm => by
    have hlt : m < cs.length := hm
    obtain ⟨z, hz⟩ : ∃ z, cs[m]? = some z := ⟨_, List.getElem?_eq_getElem hlt⟩
    have hcl := (h.cell m z hz).1
    rw [cntTo_succ, cntTo_is h k s m (by omega), countP_take _ cs m z hz, rclass_eq]
    have e : (cs.map St.s)[m]?.getD 0 = z.s := by simp [hz]
    have e2 : classZ x.a x.b x.c x.q x.s m = z.c := hcl.symm
    rw [e, e2]
theorem rfree_is (h : Inv x cs p) (k : Int) : (cntTo x (cs.map St.s) k 0 (cs.map St.s).length : Int) = freeZ p k := by
  rw [List.length_map, cntTo_is h k 0 _ (Nat.le_refl _), List.take_length]
  have e : cs.countP (fun z => z.s == 0 && z.c == k) = cs.countP (St.fr k) := by
    apply List.countP_congr
    intro z _
    cases ht : z.t
    · by_cases hg : z.g = 4294967295 <;> by_cases hc : z.c = k <;> simp [St.s, St.fr, ht, hg, hc]
    · simp [St.s, St.fr, ht]
  rw [e]
  unfold freeZ
  cases hk : inN k 3
  · have ho := inN_out hk
    have : cs.countP (St.fr k) = 0 := by
      rw [List.countP_eq_zero]
      intro z hz hf
      obtain ⟨i, hi⟩ := List.mem_iff_getElem?.1 hz
      have := (h.cell i z hi).2.1
      have hc : z.c = k := by
        simp only [St.fr, Bool.and_eq_true, beq_iff_eq] at hf
        exact hf.1.1
      omega
    simp [this]
  · have hi := inN_in hk
    obtain ⟨m, rfl⟩ : ∃ m : Nat, k = m := ⟨k.toNat, by omega⟩
    have := h.cnt m (by omega)
    simp [this]
theorem rret_is (h : Inv x cs p) (k : Int) : (cntTo x (cs.map St.s) k 2 (cs.map St.s).length : Int) = retZ cs k := by
  rw [List.length_map, cntTo_is h k 2 _ (Nat.le_refl _), List.take_length]
  have e : cs.countP (fun z => z.s == 2 && z.c == k) = cs.countP (fun z => z.c == k && z.g == 4294967295) := by
    apply List.countP_congr
    intro z hz
    obtain ⟨i, hi⟩ := List.mem_iff_getElem?.1 hz
    have hcl := (h.cell i z hi).2.2.2.2
    cases ht : z.t
    · by_cases hg : z.g = 4294967295 <;> by_cases hc : z.c = k <;> simp [St.s, ht, hg, hc]
    · have := hcl ht
      have hg : (z.g == 4294967295) = false := by simp; omega
      simp [St.s, ht, hg]
  rw [e]
  unfold retZ
  cases hk : inN k 3
  · have ho := inN_out hk
    have : cs.countP (fun z => z.c == k && z.g == 4294967295) = 0 := by
      rw [List.countP_eq_zero]
      intro z hz hf
      obtain ⟨i, hi⟩ := List.mem_iff_getElem?.1 hz
      have := (h.cell i z hi).2.1
      have hc : z.c = k := by
        simp only [Bool.and_eq_true, beq_iff_eq] at hf
        exact hf.1
      omega
    simp [this]
  · simp
end
/-! At first. -/
theorem revR_mem {n i : Nat} {y : Int} (h : y ∈ revR n i) (hi : i ≤ n) : ∃ j : Nat, y = j ∧ n - i ≤ j ∧ j < n := by
  induction i with
  | zero => simp [revR] at h
  | succ i ih =>
    rw [revR, List.mem_append] at h
    rcases h with h | h
    · obtain ⟨j, e1, e2, e3⟩ := ih h (by omega)
      exact ⟨j, e1, by omega, e3⟩
    · have : y = (n : Int) - 1 - i := by simpa using h
      exact ⟨n - 1 - i, by omega, by omega, by omega⟩
theorem revR_nodup (n : Nat) : ∀ i, i ≤ n → (revR n i).Nodup
  | 0, _ => by simp [revR]
  | i + 1, hi => by
    rw [revR, List.nodup_append]
    refine ⟨revR_nodup n i (by omega), by simp, fun y hy y' hy' e => ?_⟩
    have : y' = (n : Int) - 1 - i := by simpa using hy'
    obtain ⟨j, e1, e2, e3⟩ := revR_mem hy (by omega)
    omega
theorem whole_cnt (cs : List St) (k : Int) : ∀ i, i ≤ cs.length → (wholeL cs k i).length = (cs.drop (cs.length - i)).countP (fun z => z.c == k)
  | 0, _ => by simp [wholeL, revR]
  | i + 1, hi => by
    have ih := whole_cnt cs k i (by omega)
    have hq : cs.length - 1 - i < cs.length := by omega
    obtain ⟨z, hz⟩ : ∃ z, cs[cs.length - 1 - i]? = some z := ⟨_, List.getElem?_eq_getElem hq⟩
    have e : cs.drop (cs.length - (i + 1)) = z :: cs.drop (cs.length - i) := by
      have e1 : cs.length - (i + 1) = cs.length - 1 - i := by omega
      have e2 : cs.length - i = cs.length - 1 - i + 1 := by omega
      rw [e1, e2, List.drop_eq_getElem_cons hq]
      congr 1
      exact (List.getElem?_eq_some_iff.1 hz).2
    rw [e, List.countP_cons, ← ih]
    cases hc : z.c == k
    · rw [whole_no cs k i z (by omega) hz hc]; simp
    · rw [whole_yes cs k i z (by omega) hz hc]; simp
theorem cz_in (x : Sh) (hm : x.may = true) (i : Nat) (hi : i < x.n) : 0 ≤ x.cz i ∧ x.cz i < 3 := by
  have h' : mayB x.a x.b x.c x.q x.s = true := hm
  obtain ⟨ha, hb, hc, _, _⟩ := mayB_iff.1 h'
  unfold Sh.n at hi
  unfold Sh.cz classZ
  rw [if_pos ⟨h', by omega⟩]
  split
  · omega
  · split
    · omega
    · split
      · omega
      · omega
theorem sim_start (x : Sh) (hm : x.may = true) : Sim x (csTo x.cz x.s x.n x.n) (fun k => wholeL (csTo x.cz x.s x.n x.n) k x.n) (revR x.n x.n) := by
  have h' : mayB x.a x.b x.c x.q x.s = true := hm
  obtain ⟨_, _, _, _, hs⟩ := mayB_iff.1 h'
  have hat : ∀ j : Nat, j < x.n → (csTo x.cz x.s x.n x.n)[j]? = some ⟨x.cz j, x.s, false⟩ := fun j hj => by rw [csTo_at _ _ _ _ _ hj, if_pos hj]
  have hin : ∀ (j : Nat) (z : St), (csTo x.cz x.s x.n x.n)[j]? = some z → z = ⟨x.cz j, x.s, false⟩ ∧ j < x.n := fun j z hz => by
    have hj : j < x.n := by have := (List.getElem?_eq_some_iff.1 hz).1; rwa [csTo_length] at this
    exact ⟨(Option.some.inj ((hat j hj).symm.trans hz)).symm, hj⟩
  have hlen := csTo_length x.cz x.s x.n x.n
  have hhit : ∀ k : Int, ∀ y ∈ revR x.n x.n, hitC (csTo x.cz x.s x.n x.n) k y = (x.cz y == k) := fun k y hy => by
    obtain ⟨j, rfl, _, hj⟩ := revR_mem hy (Nat.le_refl _)
    simp [hitC, hat j hj]
  have hall : ∀ (q : St → Bool), (∀ z ∈ csTo x.cz x.s x.n x.n, q z = true ↔ z.any = true) → (csTo x.cz x.s x.n x.n).countP q = (csTo x.cz x.s x.n x.n).countP St.any := fun q hq => List.countP_congr hq
  refine ⟨⟨hlen, fun i z hz => ?_, fun k hk y hy => ?_, fun k hk => ?_, fun k hk => ?_⟩, fun k hk => ?_, fun y hy => ?_, ?_⟩
  · obtain ⟨rfl, hi⟩ := hin i z hz
    exact ⟨rfl, cz_in x hm i hi, by simp; omega, by simp; omega, by simp⟩
  · have hy1 : y ∈ revR x.n x.n := by
      have := (List.mem_filter.1 (show y ∈ (revR (csTo x.cz x.s x.n x.n).length x.n).filter _ from hy)).1
      rwa [hlen] at this
    have hy2 : hitC (csTo x.cz x.s x.n x.n) k y = true := (List.mem_filter.1 (show y ∈ (revR (csTo x.cz x.s x.n x.n).length x.n).filter _ from hy)).2
    rw [hhit k y hy1] at hy2
    obtain ⟨j, rfl, _, hj⟩ := revR_mem hy1 (Nat.le_refl _)
    exact ⟨j, _, rfl, hat j hj, by simpa using hy2, rfl, by simp; omega⟩
  · show (wholeL _ _ _).Nodup
    unfold wholeL
    rw [hlen]
    exact (revR_nodup _ _ (Nat.le_refl _)).filter _
  · show (wholeL _ _ _).length = _
    rw [whole_cnt _ _ _ (by rw [hlen]; exact Nat.le_refl _), hlen, Nat.sub_self, List.drop_zero]
    apply List.countP_congr
    intro z hz
    obtain ⟨i, hi⟩ := List.mem_iff_getElem?.1 hz
    obtain ⟨rfl, _⟩ := hin i z hi
    have : (x.s != 4294967295) = true := by simp; omega
    simp [St.fr, this]
  · show wholeL _ _ _ = _
    unfold wholeL
    rw [hlen]
    exact List.filter_congr (fun y hy => hhit k y hy)
  · obtain ⟨j, e, _, hj⟩ := revR_mem hy (Nat.le_refl _)
    exact ⟨j, e, by rw [hlen]; exact hj⟩
  · rw [revR_length, ← hall (fun _ => true) (fun z hz => ?_)]
    · simp [hlen]
    · obtain ⟨i, hi⟩ := List.mem_iff_getElem?.1 hz
      obtain ⟨rfl, _⟩ := hin i z hi
      rw [any_yes (z := ⟨x.cz i, x.s, false⟩) rfl (by simp; omega)]
theorem gs_start (x : Sh) : List.replicate x.n x.s = (csTo x.cz x.s x.n x.n).map St.g := by
  apply List.ext_getElem?
  intro j
  by_cases hj : j < x.n
  · simp [hj, csTo]
  · rw [List.getElem?_eq_none (by simp; omega), List.getElem?_eq_none (by rw [List.length_map, csTo_length]; omega)]
theorem is_start (x : Sh) (hm : x.may = true) : List.replicate x.n 0 = (csTo x.cz x.s x.n x.n).map St.s := by
  have h' : mayB x.a x.b x.c x.q x.s = true := hm
  obtain ⟨_, _, _, _, hs⟩ := mayB_iff.1 h'
  apply List.ext_getElem?
  intro j
  by_cases hj : j < x.n
  · simp [hj, csTo, St.s]; omega
  · rw [List.getElem?_eq_none (by simp; omega), List.getElem?_eq_none (by rw [List.length_map, csTo_length]; omega)]
end Go.Proofs.YtplneoapcadlnaaDoor
