/- Plain: each live cell is counted; what a cut leaves; what is reached behind a cut, a drain, a user's act. -/
import Derived.Test.YtgbbaeojemihjaaGreatDoorLayHepP
import Derived.Test.YtgbbaeojemihjaaGreatDoorLayLaw
namespace Go.Proofs.YtgbbaeojemihjaaGreatDoor
namespace Hp
open Go.RowKit

section
variable {x : Sh} {s t : Hs}
/-! What a cut leaves. -/
theorem cutTo_is {i : Nat} {l : List Vl} (hv : s.vs[i]? = some l) : ∀ j, j ≤ l.length → cutTo s i j = { s with vs := s.vs.set i (nils j ++ l.drop j), q := s.q ++ ptrs (l.take j) }
  | 0, _ => by
    have hi := (List.getElem?_eq_some_iff.1 hv).1
    have e : s.vs.set i l = s.vs := by
      obtain ⟨_, rfl⟩ := List.getElem?_eq_some_iff.1 hv
      exact List.set_getElem_self hi
    simp [cutTo, nils, ptrs, e]
  | j + 1, hj => by
    have hi := (List.getElem?_eq_some_iff.1 hv).1
    obtain ⟨o, ho⟩ : ∃ o, l[j]? = some o := ⟨_, List.getElem?_eq_getElem (by omega)⟩
    unfold cutTo
    rw [cutTo_is hv j (by omega)]
    unfold rpS
    have e0 : (s.vs.set i (nils j ++ l.drop j))[i]? = some (nils j ++ l.drop j) := by
      rw [List.getElem?_set_self hi]
    have e1 : (nils j ++ l.drop j)[j]? = some o := by
      rw [List.getElem?_append_right (by simp [nils])]
      simp [nils, ho]
    have e2 : vlAt (s.vs.set i (nils j ++ l.drop j)) i j = o := by
      unfold vlAt
      rw [Int.toNat_natCast, e0]
      simp [e1]
    have e3 : (nils j ++ l.drop j).set j Vl.nil = nils (j + 1) ++ l.drop (j + 1) := by
      rw [List.set_append_right _ _ (by simp [nils])]
      have ed : l.drop j = o :: l.drop (j + 1) := by
        obtain ⟨hjl, rfl⟩ := List.getElem?_eq_some_iff.1 ho
        exact List.drop_eq_getElem_cons hjl
      rw [ed]
      simp only [nils, List.length_replicate, Nat.sub_self, List.set_cons_zero]
      rw [List.replicate_succ', List.append_assoc]
      rfl
    simp only [Int.toNat_natCast, e0, Option.getD_some, e2, e3, List.set_set]
    have e4 : ptrs (l.take (j + 1)) = ptrs (l.take j) ++ ptrs [o] := by
      rw [List.take_add_one, ho]
      simp [ptrs]
    rw [e4, List.append_assoc]
theorem cu_is (h : Ok x s) {n : Int} (he : liE x s n = 0) : ∃ (i : Nat) (z : St) (l : List Vl), n = i ∧ i < x.n ∧ s.cs[i]? = some z ∧ z.t = true ∧ s.vs[i]? = some l ∧ s.outs i = ptrs l ∧
    cuS x s n = { s with vs := s.vs.set i (nils (x.sl i)), q := s.q ++ ptrs l, ch := tick s.ch } := by
  obtain ⟨i, z, rfl, hi, hz, ht⟩ := li_yes h he
  obtain ⟨l, hv, hl, _, ho⟩ := h.row hi
  refine ⟨i, z, l, rfl, hi, hz, ht, hv, ho, ?_⟩
  unfold cuS
  have e : slX x i = x.sl i := by unfold slX; rw [if_pos (inN_t (by omega)), Int.toNat_natCast]
  rw [if_pos he, e, cutTo_is (s := { s with ch := tick s.ch }) hv _ (by omega)]
  rw [List.take_of_length_le (by omega), List.drop_of_length_le (by omega), List.append_nil]
theorem li_taken (h : Ok x s) {n : Int} (ht : takenZ s.cs n = true) : liE x s n = 0 := by
  obtain ⟨i, y, rfl, hi, _⟩ := h.live_lt ht
  unfold liE
  rw [if_pos (inN_t (by omega)), if_pos ht]

/-! Each live cell is counted. -/
def Pos (s : Hs) : Prop := ∀ z, takenZ s.cs z = true → z ∈ s.all
theorem mem_all {z : Int} : z ∈ s.all ↔ z ∈ allV s.vs ∨ z ∈ s.r ∨ z ∈ s.q := by simp [Hs.all]
theorem allV_off {vs : List (List Vl)} {i : Nat} {l l' : List Vl} (hv : vs[i]? = some l) {z : Int} (hz : z ∈ allV vs) : z ∈ allV (vs.set i l') ∨ z ∈ ptrs l := by
  have h1 := allV_count hv l' z
  have h2 := List.count_pos_iff.2 hz
  by_cases e : z ∈ ptrs l
  · exact Or.inr e
  · have h3 := List.count_eq_zero.2 e
    exact Or.inl (List.count_pos_iff.1 (by omega))
theorem Pos.to (hP : Pos s) (h1 : ∀ z, takenZ t.cs z = true → takenZ s.cs z = true ∨ z ∈ t.all) (h2 : ∀ z, takenZ t.cs z = true → z ∈ s.all → z ∈ t.all) : Pos t :=
  fun z hz => (h1 z hz).elim (fun h => h2 z hz (hP z h)) id
theorem Pos.al (h : Ok x s) (hP : Pos s) (n : Int) : Pos (alS x s n) := by
  unfold alS
  by_cases he : alE x s n = 0
  · rw [if_pos he]
    obtain ⟨i, z, e1, hi, hz, ht, hc, e3, e2, _, _⟩ := al_yes h he
    rw [e1, e3]
    refine hP.to (fun y hy => ?_) (fun y _ hy => ?_)
    · by_cases e : y = i
      · right
        rw [mem_all]
        exact Or.inr (Or.inl (Rt.mem_addL.2 (Or.inl e)))
      · left
        obtain ⟨j, v, rfl, hv, hvt⟩ := taken_in hy
        have hv' : (s.cs.set i ⟨z.c, z.g, true⟩)[j]? = some v := hv
        rw [at_set hz, if_neg (by omega)] at hv'
        rw [taken_at hv', hvt]
    · rw [mem_all] at hy ⊢
      exact hy.imp id (fun hy => hy.imp (fun hy => Rt.mem_addL.2 (Or.inr hy)) id)
  · rw [if_neg he]
    exact hP
theorem Pos.ho (hP : Pos s) (n : Int) : Pos (hoS x s n) := by
  unfold hoS
  split
  · refine hP.to (fun y hy => Or.inl hy) (fun y _ hy => ?_)
    rw [mem_all] at hy ⊢
    exact hy.imp id (fun hy => hy.imp (fun hy => Rt.mem_addL.2 (Or.inr hy)) id)
  · exact hP
theorem Pos.dr (hP : Pos s) (n : Int) : Pos (drS x s n) := by
  unfold drS
  split
  · refine hP.to (fun y hy => Or.inl hy) (fun y _ hy => ?_)
    rw [mem_all] at hy ⊢
    show y ∈ allV s.vs ∨ y ∈ Rt.dropL n s.r ∨ y ∈ s.q ++ [n]
    rw [Rt.mem_dropL, List.mem_append]
    rcases hy with hy | hy | hy
    · exact Or.inl hy
    · by_cases e : y = n
      · exact Or.inr (Or.inr (Or.inr (by simp [e])))
      · exact Or.inr (Or.inl ⟨hy, e⟩)
    · exact Or.inr (Or.inr (Or.inl hy))
  · exact hP
theorem Pos.pu (h : Ok x s) (hP : Pos s) (n k : Int) (y : Vl) : Pos (puS x s n k y) := by
  unfold puS
  split
  · rename_i he
    have hf : fiE x s n k y = 0 := by
      unfold puE at he
      split at he
      · assumption
      · exact he
    obtain ⟨i, j, z, rfl, rfl, hi, hj, hz, ht, hr, hp⟩ := fi_yes h hf
    obtain ⟨l, hv, hl, _, _⟩ := h.row hi
    obtain ⟨o, ho⟩ : ∃ o, l[j]? = some o := ⟨_, List.getElem?_eq_getElem (by omega)⟩
    refine hP.to (fun y hy => Or.inl hy) (fun w _ hw => ?_)
    have hc := rp_count (s := { s with ct := if ptB y = true then upC s y.n else s.ct, ch := tick s.ch }) hv ho y (List.count w) (fun _ _ => List.count_append ..)
    have h1 : 0 < List.count w ({ s with ct := if ptB y = true then upC s y.n else s.ct, ch := tick s.ch } : Hs).all := List.count_pos_iff.2 hw
    exact List.count_pos_iff.1 (by omega)
  · exact hP
theorem Pos.cu (h : Ok x s) (hP : Pos s) (n : Int) : Pos (cuS x s n) := by
  by_cases he : liE x s n = 0
  · obtain ⟨i, z, l, rfl, hi, hz, ht, hv, ho, e⟩ := cu_is h he
    rw [e]
    refine hP.to (fun y hy => Or.inl hy) (fun y _ hy => ?_)
    rw [mem_all] at hy ⊢
    show y ∈ allV (s.vs.set i (nils (x.sl i))) ∨ y ∈ s.r ∨ y ∈ s.q ++ ptrs l
    rw [List.mem_append]
    rcases hy with hy | hy | hy
    · exact (allV_off hv hy).imp id (fun h => Or.inr (Or.inr h))
    · exact Or.inr (Or.inl hy)
    · exact Or.inr (Or.inr (Or.inl hy))
  · have e : cuS x s n = s := by unfold cuS; rw [if_neg he]
    rw [e]
    exact hP
theorem Pos.one (h : Ok x s) (hP : Pos s) (hb : Qu.popB s.q = true) : Pos (oneS x s) := by
  cases hd : diB s
  · rw [one_lo hb hd]
    obtain ⟨i, z, N, e1, hi, hz, ht, e2, hN, h1, hc, hl, hct⟩ := h.pop hb
    have hne : ctZ s.ct i ≠ N := by
      intro e
      have : diB s = true := by unfold diB; rw [e1, e2, e]; simp
      rw [this] at hd
      cases hd
    refine hP.to (fun y hy => Or.inl hy) (fun y _ hy => ?_)
    rw [mem_all] at hy ⊢
    show y ∈ allV s.vs ∨ y ∈ s.r ∨ y ∈ Qu.popS s.q
    rcases hy with hy | hy | hy
    · exact Or.inl hy
    · exact Or.inr (Or.inl hy)
    · by_cases e : y = (i : Int)
      · subst e
        have : 0 < (allV s.vs ++ s.r).count (i : Int) := by omega
        rcases List.mem_append.1 (List.count_pos_iff.1 this) with h | h
        · exact Or.inl h
        · exact Or.inr (Or.inl h)
      · right; right
        have h2 := hc y
        rw [if_neg e] at h2
        have := List.count_pos_iff.2 hy
        exact List.count_pos_iff.1 (by omega)
  · obtain ⟨i, z, l, e1, hz, ht, hv, hn1, hn2, ho, es⟩ := h.di_is hb hd
    rw [es]
    refine hP.to (fun y hy => Or.inl (taken_back hz rfl hy).2) (fun y hy hm => ?_)
    have hne := (taken_back hz rfl hy).1
    rw [mem_all] at hm ⊢
    show y ∈ allV (s.vs.set i (nils (x.sl i))) ∨ y ∈ s.r ∨ y ∈ Qu.popS s.q ++ ptrs l
    rw [List.mem_append]
    rcases hm with hm | hm | hm
    · exact (allV_off hv hm).imp id (fun h => Or.inr (Or.inr h))
    · exact Or.inr (Or.inl hm)
    · rcases mem_pop hb hm with e2 | e2
      · rw [e1] at e2; exact absurd e2 hne
      · exact Or.inr (Or.inr (Or.inl e2))
theorem Pos.dn : ∀ (n : Nat) {s : Hs}, Ok x s → Pos s → Pos (dnS x n s)
  | 0, s, _, hC => hC
  | n + 1, s, h, hC => by
    unfold dnS
    split
    · rename_i hb
      exact Pos.dn n (h.one hb).1 (Pos.one h hC hb)
    · exact hC
theorem Pos.fg (hP : Pos s) (l : List Int) : Pos (fgS s l) := hP
theorem Pos.do_ (h : Ok x s) (hP : Pos s) (a : Hact) : Pos (doS x s a) := by
  unfold doS
  split
  · exact hP.ho _
  split
  · exact hP.dr _
  split
  · exact hP.pu h _ _ _
  split
  · exact Pos.dn _ h hP
  split
  · exact hP.cu h _
  split
  · exact hP.fg _
  · exact hP.al h _

/-! A cell's lives. -/
structure Grows (s t : Hs) : Prop where
  gen : ∀ z, genZ s.cs z ≤ genZ t.cs z
  die : ∀ z, takenZ s.cs z = true → takenZ t.cs z = false → genZ s.cs z < genZ t.cs z
  life : ∀ z, takenZ s.cs z = true → takenZ t.cs z = true → genZ t.cs z = genZ s.cs z
theorem Grows.same (h : t.cs = s.cs) : Grows s t := ⟨fun z => by rw [h]; exact Int.le_refl _, fun z h1 h2 => (by rw [h, h1] at h2; cases h2), fun z _ _ => by rw [h]⟩
theorem gen_at {cs : List St} {i : Nat} {z : St} (h : cs[i]? = some z) : genZ cs i = z.g := by
  have hi : inN (i : Int) cs.length = true := inN_t (by have := (List.getElem?_eq_some_iff.1 h).1; omega)
  unfold genZ
  rw [if_pos hi, Int.toNat_natCast, h]
  rfl
theorem gen_set {cs : List St} {i : Nat} {z z' : St} (h : cs[i]? = some z) (n : Int) : genZ (cs.set i z') n = if n = i then z'.g else genZ cs n := by
  by_cases e : n = i
  · subst e
    rw [if_pos rfl, gen_at (z := z')]
    rw [at_set h, if_pos rfl]
  · rw [if_neg e]
    unfold genZ
    rw [List.length_set]
    by_cases hi : inN n cs.length = true
    · rw [if_pos hi, if_pos hi]
      have h1 := inN_in hi
      rw [at_set h, if_neg (by omega)]
    · rw [if_neg hi, if_neg hi]
theorem Grows.al (h : Ok x s) (n : Int) : Grows s (alS x s n) := by
  unfold alS
  by_cases he : alE x s n = 0
  · rw [if_pos he]
    obtain ⟨i, z, e1, hi, hz, ht, hc, e3, e2, _, _⟩ := al_yes h he
    rw [e1, e3]
    have hg : ∀ y, genZ (s.cs.set i ⟨z.c, z.g, true⟩) y = genZ s.cs y := fun y => by
      rw [gen_set hz]
      split
      · rename_i e; rw [e, gen_at hz]
      · rfl
    refine ⟨fun y => by show genZ s.cs y ≤ genZ (s.cs.set i _) y; rw [hg]; exact Int.le_refl _, fun y h1 h2 => ?_, fun y _ _ => hg y⟩
    have h3 : takenZ (s.cs.set i ⟨z.c, z.g, true⟩) y = false := h2
    rw [taken_set hz rfl h1] at h3
    cases h3
  · rw [if_neg he]
    exact Grows.same rfl
theorem Grows.one (h : Ok x s) (hb : Qu.popB s.q = true) : Grows s (oneS x s) ∧ ∀ z, takenZ (oneS x s).cs z = true → takenZ s.cs z = true := by
  cases hd : diB s
  · rw [one_lo hb hd]
    exact ⟨Grows.same rfl, fun z hz => hz⟩
  · obtain ⟨i, z, l, e1, hz, ht, hv, hn1, hn2, ho, es⟩ := h.di_is hb hd
    rw [es]
    refine ⟨⟨fun y => ?_, fun y h1 h2 => ?_, fun y h1 h2 => ?_⟩, fun y hy => (taken_back hz rfl hy).2⟩
    · show genZ s.cs y ≤ genZ (s.cs.set i _) y
      rw [gen_set hz]
      split
      · rename_i e; rw [e, gen_at hz]; show z.g ≤ z.g + 1; omega
      · exact Int.le_refl _
    · show genZ s.cs y < genZ (s.cs.set i _) y
      rw [gen_set hz]
      split
      · rename_i e; rw [e, gen_at hz]; show z.g < z.g + 1; omega
      · rename_i e
        have h3 : takenZ (s.cs.set i ⟨z.c, z.g + 1, false⟩) y = false := h2
        rw [taken_off hz e h1] at h3
        cases h3
    · show genZ (s.cs.set i _) y = genZ s.cs y
      rw [gen_set hz, if_neg (taken_back hz rfl h2).1]
theorem Grows.trans {u : Hs} (h : Grows s t) (h' : Grows t u) (hb : ∀ z, takenZ u.cs z = true → takenZ t.cs z = true) : Grows s u := by
  refine ⟨fun z => Int.le_trans (h.gen z) (h'.gen z), fun z h1 h2 => ?_, fun z h1 h2 => ?_⟩
  · cases h3 : takenZ t.cs z
    · have := h.die z h1 h3
      have := h'.gen z
      omega
    · have := h'.die z h3 h2
      have := h.gen z
      omega
  · rw [h'.life z (hb z h2) h2, h.life z h1 (hb z h2)]
theorem Grows.dn : ∀ (n : Nat) {s : Hs}, Ok x s → Grows s (dnS x n s) ∧ ∀ z, takenZ (dnS x n s).cs z = true → takenZ s.cs z = true
  | 0, s, _ => ⟨Grows.same rfl, fun z hz => hz⟩
  | n + 1, s, h => by
    unfold dnS
    split
    · rename_i hb
      obtain ⟨g1, g2⟩ := Grows.one h hb
      obtain ⟨g3, g4⟩ := Grows.dn n (h.one hb).1
      exact ⟨g1.trans g3 g4, fun z hz => g2 z (g4 z hz)⟩
    · exact ⟨Grows.same rfl, fun z hz => hz⟩
theorem cu_cs (s : Hs) (n : Int) : (cuS x s n).cs = s.cs := by
  unfold cuS
  split
  · exact cut_cs _ n _
  · rfl
theorem pu_cs (s : Hs) (n k : Int) (y : Vl) : (puS x s n k y).cs = s.cs := by unfold puS; split <;> rfl
theorem ho_cs (s : Hs) (n : Int) : (hoS x s n).cs = s.cs := by unfold hoS; split <;> rfl
theorem dr_cs (s : Hs) (n : Int) : (drS x s n).cs = s.cs := by unfold drS; split <;> rfl
theorem Grows.do_ (h : Ok x s) (a : Hact) : Grows s (doS x s a) := by
  unfold doS
  split
  · exact Grows.same (ho_cs s _)
  split
  · exact Grows.same (dr_cs s _)
  split
  · exact Grows.same (pu_cs s _ _ _)
  split
  · exact (Grows.dn _ h).1
  split
  · exact Grows.same (cu_cs s _)
  split
  · exact Grows.same rfl
  · exact Grows.al h _

/-! What is reached. -/
theorem rch_to (hr : ∀ z ∈ s.r, z ∈ t.r) (hl : ∀ z, Gr.Rch s.gr s.r z → takenZ s.cs z = true → takenZ t.cs z = true) (ho : ∀ z, Gr.Rch s.gr s.r z → takenZ s.cs z = true → t.outs z = s.outs z) {z : Int} (hz : Gr.Rch s.gr s.r z) : Gr.Rch t.gr t.r z := by
  intro S hs hn
  refine (hz (fun y => S y ∧ Gr.Rch s.gr s.r y) (fun y hy hf => ?_) (fun n hn' hS o ho' => ?_)).1
  · have hR := Gr.Rch.start hy hf
    exact ⟨hs y (live_iff.2 (hl y hR (live_iff.1 hy))) (hr y hf), hR⟩
  · obtain ⟨h1, h2⟩ := mem_nodes.1 hn'
    refine ⟨hn ⟨n.id, t.outs n.id⟩ (mem_nodes.2 ⟨hl _ hS.2 h1, rfl⟩) hS.1 o ?_, Gr.Rch.step hn' hS.2 ho'⟩
    rw [ho _ hS.2 h1, ← h2]
    exact ho'
theorem rch_back {z : Int} (hz : Gr.Rch t.gr t.r z) (hr : ∀ z ∈ t.r, takenZ t.cs z = true → Gr.Rch s.gr s.r z ∨ takenZ s.cs z = false) (ho : ∀ z, takenZ t.cs z = true → takenZ s.cs z = false → t.outs z = [])
    (hq : ∀ z, takenZ t.cs z = true → takenZ s.cs z = true → Gr.Rch s.gr s.r z → ∀ o ∈ t.outs z, o ∈ s.outs z ∨ Gr.Rch s.gr s.r o) (hw : ∀ z, Gr.Rch s.gr s.r z → takenZ s.cs z = true) : Gr.Rch s.gr s.r z ∨ takenZ s.cs z = false := by
  refine hz (fun y => Gr.Rch s.gr s.r y ∨ takenZ s.cs y = false) (fun y hy hf => hr y hf (live_iff.1 hy)) (fun n hn hS o ho' => ?_)
  obtain ⟨h1, h2⟩ := mem_nodes.1 hn
  rw [h2] at ho'
  rcases hS with hS | hS
  · rcases hq n.id h1 (hw _ hS) hS o ho' with h | h
    · exact Or.inl (Gr.Rch.step (n := ⟨n.id, s.outs n.id⟩) (mem_nodes.2 ⟨hw _ hS, rfl⟩) hS h)
    · exact Or.inl h
  · rw [ho _ h1 hS] at ho'
    simp at ho'
theorem Ok.rch_live (h : Ok x s) {z : Int} {fr : List Int} (hz : Gr.Rch s.gr fr z) : takenZ s.cs z = true := live_iff.1 (hz.node h.ri)
end
end Hp
end Go.Proofs.YtgbbaeojemihjaaGreatDoor
