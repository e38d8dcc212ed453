/- Plain: so many units: what holds behind them, what is reached, how many died. Plain: all the dead: how many units it takes. Plain: steps one behind another; at the beginning; what is told of a graph behind a step. -/
import Derived.Test.YtgbbaeojemihjaaGreatDoorLayCol
import Derived.Test.YtgbbaeojemihjaaGreatDoorLayTchA
import Derived.Test.YtgbbaeojemihjaaGreatDoorLayHlj
namespace Go.Proofs.YtgbbaeojemihjaaGreatDoor
namespace Hp
open Go.RowKit

section
variable {x : Sh} {c : Cs} {s t : Hs}
theorem CI.stuck (h : CI x c s) (hu : uniB c s = false) : CI x (uniC c s) s ∧ c.cu = [] ∧ s.q = [] ∧ staleB c s = true ∧ s.k = [] ∧ uniC c s = { c with is := false } := by
  unfold uniB at hu
  simp only [Bool.or_eq_false_iff, Bool.not_eq_false', Bool.and_eq_true, List.isEmpty_iff] at hu
  obtain ⟨h1, h2, h3, h4⟩ := hu
  have e : uniC c s = { c with is := false } := by
    unfold uniC
    rw [h1, h2, h3, h4]
    rfl
  refine ⟨?_, h1, pop_nil h2, h3, h4, e⟩
  rw [e]
  exact ⟨h.ok, h.few, h.pos, h.len, h.small, h.old, h.cov, h.ch0, fun e => (by cases e), fun e => (by have := (not_stale.1 e).1; cases this)⟩
theorem stuck_again (hu : uniB c s = false) : uniB { c with is := false } s = false := by
  unfold uniB at *
  simp only [Bool.or_eq_false_iff, Bool.not_eq_false', Bool.and_eq_true, List.isEmpty_iff] at hu ⊢
  exact ⟨hu.1, hu.2.1, rfl, hu.2.2.2⟩
theorem CI.st : ∀ (n : Nat) {c : Cs} {s : Hs}, CI x c s → s.ch + n ≤ 4611686018427380000 →
    CI x (stC x n c s) (stS x n c s) ∧ (stS x n c s).ch ≤ s.ch + n ∧ (stS x n c s).r = s.r ∧ (∀ z, Gr.Rch (stS x n c s).gr (stS x n c s).r z ↔ Gr.Rch s.gr s.r z) ∧ ∀ z, Gr.Rch s.gr s.r z → (stS x n c s).outs z = s.outs z
  | 0, c, s, h, _ => ⟨h, by show s.ch ≤ s.ch + _; omega, rfl, fun _ => Iff.rfl, fun _ _ => rfl⟩
  | n + 1, c, s, h, hb => by
    unfold stC stS
    by_cases hu : uniB c s = true
    · rw [if_pos hu, if_pos hu]
      obtain ⟨a1, a2, a3, a4, a5⟩ := h.go (by omega) (h.kind hu)
      obtain ⟨b1, b2, b3, b4, b5⟩ := CI.st n a1 (by omega)
      exact ⟨b1, by omega, by rw [b3, a3], fun z => (b4 z).trans (a4 z), fun z hz => by rw [b5 z ((a4 z).2 hz), a5 z hz]⟩
    · rw [if_neg hu, if_neg hu]
      exact ⟨(h.stuck (by simpa using hu)).1, by omega, rfl, fun _ => Iff.rfl, fun _ _ => rfl⟩
/-! Lists that are the same. -/
theorem reach_same (h : Ok x s) (h' : Ok x t) (hR : ∀ z, Gr.Rch t.gr t.r z ↔ Gr.Rch s.gr s.r z) : Gr.reachL t.gr t.r = Gr.reachL s.gr s.r :=
  Gr.inc_ext (Gr.reach_inc h'.ri _) (Gr.reach_inc h.ri _) (fun z => by rw [Gr.mem_reach h'.ri, Gr.mem_reach h.ri, hR])
theorem dead_same (h : Ok x s) (h' : Ok x t) (hc : t.cs = s.cs) (hR : ∀ z, Gr.Rch t.gr t.r z ↔ Gr.Rch s.gr s.r z) : Gr.deadL t.gr = Gr.deadL s.gr :=
  Gr.inc_ext (Gr.dead_inc h'.ri) (Gr.dead_inc h.ri) (fun z => by rw [mem_dead h', mem_dead h, hR, hc])
theorem ids_same (hc : t.cs = s.cs) : Gr.ids t.gr = Gr.ids s.gr := by rw [gr_ids, gr_ids, hc]
theorem part (h : Ok x s) : (Gr.ids s.gr).length = (Gr.reachL s.gr s.r).length + (Gr.deadL s.gr).length := by
  have e : Gr.reachL s.gr s.r = (Gr.ids s.gr).filter (fun z => Rt.hasB (Gr.reachL s.gr s.r) z) := by
    refine Gr.inc_ext (Gr.reach_inc h.ri _) (h.ri.inc.filter _) (fun z => ?_)
    rw [List.mem_filter, Rt.hasB_iff]
    exact ⟨fun hz => ⟨Gr.reach_ids hz, hz⟩, fun hz => hz.2⟩
  have h1 : (Gr.reachL s.gr s.r).length = ((Gr.ids s.gr).filter (fun z => Rt.hasB (Gr.reachL s.gr s.r) z)).length := congrArg List.length e
  have h2 : (Gr.deadL s.gr).length = ((Gr.ids s.gr).filter (fun z => !Rt.hasB (Gr.reachL s.gr s.r) z)).length := rfl
  rw [h1, h2]
  generalize (Gr.reachL s.gr s.r) = R
  induction Gr.ids s.gr with
  | nil => rfl
  | cons y r ih =>
    simp only [List.filter_cons, List.length_cons]
    cases Rt.hasB R y <;> simp <;> omega
theorem drop_len {i : Int} : ∀ {l : List Int}, l.Nodup → i ∈ l → (l.filter (fun y => y != i)).length + 1 = l.length
  | y :: r, hn, hm => by
    rw [List.nodup_cons] at hn
    rw [List.filter_cons]
    by_cases e : y = i
    · subst e
      have : r.filter (fun z => z != y) = r := List.filter_eq_self.2 (fun z hz => by
        have : z ≠ y := fun e => hn.1 (e ▸ hz)
        simpa using this)
      simp [this]
    · have hm' : i ∈ r := (List.mem_cons.1 hm).resolve_left (fun h => e h.symm)
      have := drop_len hn.2 hm'
      simp [e]
      omega
theorem drop_sum {i : Int} (f g : Int → Nat) : ∀ {l : List Int}, l.Nodup → i ∈ l → (∀ z ∈ l, z ≠ i → g z = f z) → ((l.filter (fun y => y != i)).map g).sum + f i = (l.map f).sum
  | y :: r, hn, hm, hg => by
    rw [List.nodup_cons] at hn
    rw [List.filter_cons]
    by_cases e : y = i
    · subst e
      have : r.filter (fun z => z != y) = r := List.filter_eq_self.2 (fun z hz => by
        have : z ≠ y := fun e => hn.1 (e ▸ hz)
        simpa using this)
      have h2 : r.map g = r.map f := List.map_congr_left (fun z hz => hg z (List.mem_cons_of_mem _ hz) (fun e => hn.1 (e ▸ hz)))
      simp [this, h2]
      omega
    · have hm' : i ∈ r := (List.mem_cons.1 hm).resolve_left (fun h => e h.symm)
      have := drop_sum f g hn.2 hm' (fun z hz => hg z (List.mem_cons_of_mem _ hz))
      have := hg y (List.mem_cons_self ..) e
      simp [e]
      omega
/-- One dies. -/
theorem di_lists (h : Ok x s) (hb : Qu.popB s.q = true) (hd : diB s = true) : ∃ i, takenZ s.cs i = true ∧ ¬ Gr.Rch s.gr s.r i ∧ Gr.ids (oneS x s).gr = (Gr.ids s.gr).filter (fun y => y != i) ∧ Gr.deadL (oneS x s).gr = (Gr.deadL s.gr).filter (fun y => y != i) ∧ (oneS x s).q = Qu.popS s.q ++ s.outs i := by
  have hok := (h.one hb).1
  have hR := h.one_rch hb
  obtain ⟨i, z, l, e1, hz, ht, hv, hn1, hn2, ho, es⟩ := h.di_is hb hd
  have hti : takenZ s.cs i = true := by rw [taken_at hz, ht]
  have hm : ∀ y, takenZ (oneS x s).cs y = true ↔ takenZ s.cs y = true ∧ y ≠ i := fun y => by
    rw [es]
    exact ⟨fun hy => ⟨(taken_back hz rfl hy).2, (taken_back hz rfl hy).1⟩, fun hy => taken_off hz hy.2 hy.1⟩
  refine ⟨i, hti, fun hr => ?_, ?_, ?_, by rw [es, ho]⟩
  · have := hok.rch_live ((hR _).2 hr)
    exact ((hm _).1 this).2 rfl
  · refine Gr.inc_ext hok.ri.inc (h.ri.inc.filter _) (fun y => ?_)
    rw [live_iff, hm, List.mem_filter, live_iff]
    simp
  · refine Gr.inc_ext (Gr.dead_inc hok.ri) ((Gr.dead_inc h.ri).filter _) (fun y => ?_)
    rw [mem_dead hok, hm, hR, List.mem_filter, mem_dead h]
    simp only [bne_iff_ne, ne_eq]
    constructor
    · rintro ⟨⟨a, b⟩, d⟩
      exact ⟨⟨a, d⟩, b⟩
    · rintro ⟨⟨a, d⟩, b⟩
      exact ⟨⟨a, b⟩, d⟩
/-- How many died. -/
theorem CI.died {c' : Cs} {s' : Hs} {n : Int} (h : CI x c s) (hk : Kind x c s c' s' n) : ((Gr.ids s'.gr).length : Int) + n = (Gr.ids s.gr).length := by
  cases hk with
  | cut n g cs gs hc hg hv hn hr => rw [ids_same (cu_cs s n)]; omega
  | skip n g cs gs hc hg hv => omega
  | drain hc hb =>
    cases hd : diB s
    · rw [if_neg (by simp), one_lo hb hd, ids_same (s := s) (t := loS { s with q := Qu.popS s.q, ch := tick s.ch } (Qu.popA s.q) (Qu.popN s.q)) rfl]
      omega
    · rw [if_pos rfl]
      obtain ⟨i, hi, _, e, _⟩ := di_lists h.ok hb hd
      have := drop_len (Gr.inc_nodup h.ok.ri.inc) (live_iff.2 hi)
      rw [e]
      omega
  | round hc hb d hd hu => omega
  | last hc hb d hd hu => rw [ids_same (s := s) (t := fgS s d.fr) rfl]; omega
theorem CI.all_died : ∀ (n : Nat) {c : Cs} {s : Hs}, CI x c s → s.ch + n ≤ 4611686018427380000 → ((Gr.ids (stS x n c s).gr).length : Int) + stN x n c s = (Gr.ids s.gr).length
  | 0, c, s, h, _ => by show ((Gr.ids s.gr).length : Int) + 0 = _; omega
  | n + 1, c, s, h, hb => by
    unfold stS stN
    by_cases hu : uniB c s = true
    · rw [if_pos hu, if_pos hu]
      have hk := h.kind hu
      obtain ⟨a1, a2, _⟩ := h.go (by omega) hk
      have h1 := CI.all_died n a1 (by omega)
      have h2 := h.died hk
      omega
    · rw [if_neg hu, if_neg hu]
      omega
/-- When no unit can be: all that live are reached. -/
theorem CI.quiet (h : CI x c s) (hu : uniB c s = false) : Gr.deadL s.gr = [] ∧ s.q = [] := by
  obtain ⟨_, h1, h2, _, h4, _⟩ := h.stuck hu
  refine ⟨List.eq_nil_iff_forall_not_mem.2 (fun z hz => ?_), h2⟩
  obtain ⟨g1, g2⟩ := (mem_dead h.ok).1 hz
  have := h.cov z g1
  rw [vc_nil h1] at this
  unfold Hs.src at this
  rw [h2, h4] at this
  simp only [List.append_nil] at this
  exact g2 this
end
end Hp
end Go.Proofs.YtgbbaeojemihjaaGreatDoor

namespace Go.Proofs.YtgbbaeojemihjaaGreatDoor
namespace Hp
open Go.RowKit

section
variable {x : Sh} {c : Cs} {s t : Hs}
def ouN (s : Hs) : Nat := ((Gr.deadL s.gr).map (fun z => (s.outs z).length)).sum
def todo (c : Cs) (s : Hs) : Nat := c.cu.length + (Qu.firsts s.q).length + ouN s
def alN (s : Hs) : Nat := (Gr.reachL s.gr s.r).length
/-- All dead ones that point are to be cut. -/
def Gd (c : Cs) (s : Hs) : Prop := ∀ z ∈ Gr.deadL s.gr, s.outs z ≠ [] → z ∈ vc c s
/-- So many units are enough. -/
def Bd (c : Cs) (s : Hs) (m : Nat) : Prop :=
  uniB c s = false ∨ (staleB c s = false ∧ Gr.deadL s.gr = [] ∧ c.un ≤ m) ∨ (staleB c s = false ∧ c.un + (Gr.deadL s.gr).length + todo c s + 3 * alN s ≤ m) ∨
  (staleB c s = true ∧ Gd c s ∧ todo c s + 3 * alN s ≤ m) ∨ (staleB c s = true ∧ todo c s + 3 * (Gr.ids s.gr).length + 3 * alN s ≤ m)
theorem firsts_app (a : List Int) : ∀ b : List Int, (Qu.firsts (a ++ b)).length ≤ (Qu.firsts a).length + b.length := by
  intro b
  induction b generalizing a with
  | nil => simp
  | cons y r ih =>
    have h1 := ih (a ++ [y])
    have h2 := Qu.firsts_snoc a y
    rw [List.append_assoc] at h1
    have h3 : (Qu.firsts (a ++ [y])).length ≤ (Qu.firsts a).length + 1 := by
      rw [h2]
      split <;> simp
    simp only [List.cons_append, List.nil_append, List.length_cons] at h1 ⊢
    omega
theorem firsts_pop {q : List Int} (hb : Qu.popB q = true) : (Qu.firsts q).length = (Qu.firsts (Qu.popS q)).length + 1 := by
  cases q with
  | nil => cases hb
  | cons y r => rw [Qu.firsts_popS]; rfl
theorem firsts_nil {q : List Int} (h : (Qu.firsts q).length = 0) : q = [] := by
  cases q with
  | nil => rfl
  | cons y r => rw [Qu.firsts_popS] at h; simp at h
/-- No cell to be cut, none in the queue: if all that point are to be cut, there is no dead one. -/
theorem CI.clean (h : CI x c s) (hg : Gd c s) (hc : c.cu = []) (hq : s.q = []) : Gr.deadL s.gr = [] := by
  refine List.eq_nil_iff_forall_not_mem.2 (fun z hz => ?_)
  obtain ⟨g1, g2⟩ := (mem_dead h.ok).1 hz
  rcases mem_all.1 (h.pos z g1) with hm | hm | hm
  · obtain ⟨j, hj, hjo⟩ := h.ok.from_ hm
    have hjd : j ∈ Gr.deadL s.gr := (mem_dead h.ok).2 ⟨hj, fun hr => g2 (Gr.Rch.step (n := ⟨j, s.outs j⟩) (mem_nodes.2 ⟨hj, rfl⟩) hr hjo)⟩
    have := hg j hjd (fun e => by rw [e] at hjo; simp at hjo)
    rw [vc_nil hc] at this
    simp at this
  · exact g2 (h.ok.root_rch hm)
  · rw [hq] at hm
    simp at hm
theorem Bd.zero (h : CI x c s) (hb : Bd c s 0) : uniB c s = false := by
  have key : todo c s = 0 → staleB c s = true → (Gr.ids s.gr).length = 0 → uniB c s = false := by
    intro h1 h2 h3
    unfold todo at h1
    have e1 : c.cu = [] := List.eq_nil_of_length_eq_zero (by omega)
    have e2 : s.q = [] := firsts_nil (by omega)
    have e3 : s.k = [] := List.eq_nil_iff_forall_not_mem.2 (fun z hz => by
      have h4 : z ∈ Gr.ids s.gr := live_iff.2 (h.ok.klive z hz)
      have := List.length_pos_of_mem h4
      omega)
    unfold uniB
    rw [e1, e2, e3, h2]
    rfl
  rcases hb with hb | ⟨h1, h2, h3⟩ | ⟨h1, h2⟩ | ⟨h1, h2, h3⟩ | ⟨h1, h2⟩
  · exact hb
  · have := (h.rnd h1).2.2.2.2.1
    omega
  · have := (h.rnd h1).2.2.2.2.1
    omega
  · have e0 : todo c s = 0 := by omega
    have ea : alN s = 0 := by omega
    refine key e0 h1 ?_
    unfold todo at e0
    have hcl := h.clean h2 (List.eq_nil_of_length_eq_zero (by omega)) (firsts_nil (by omega))
    have := part h.ok
    rw [hcl] at this
    unfold alN at ea
    simpa [ea] using this
  · exact key (by omega) h1 (by omega)
theorem al_same (h : Ok x s) (h' : Ok x t) (hR : ∀ z, Gr.Rch t.gr t.r z ↔ Gr.Rch s.gr s.r z) : alN t = alN s := by
  unfold alN
  rw [reach_same h h' hR]
theorem ou_same (hd : Gr.deadL t.gr = Gr.deadL s.gr) (ho : ∀ z, t.outs z = s.outs z) : ouN t = ouN s := by
  unfold ouN
  rw [hd]
  simp only [ho]
theorem Bd.go {c' : Cs} {s' : Hs} {n : Int} {m : Nat} (h : CI x c s) (hch : s.ch ≤ 4611686018427380000) (hk : Kind x c s c' s' n) (hb : Bd c s (m + 1)) (hu : uniB c s = true) : Bd c' s' m := by
  have hgo := h.go hch hk
  obtain ⟨h', _, _, hR, _⟩ := hgo
  have hal := al_same h.ok h'.ok hR
  have hp := part h.ok
  rcases hb with hb | hb
  · rw [hb] at hu; cases hu
  have hch0 := h.ch0
  have htk : tick s.ch = s.ch + 1 := tick_is h.ch0 (by omega)
  cases hk with
  | cut n g cs gs hc hg hv hn hr =>
    have hns : staleB c s = true := by
      cases e : staleB c s
      · have := (h.rnd e).2.1
        rw [hc] at this
        cases this
      · rfl
    obtain ⟨er, ek, eq_, ech⟩ := h.ok.cu_r hv
    have ec := cu_cs (x := x) s n
    have hst : staleB { c with cu := cs, ge := gs } (cuS x s n) = true := by
      cases e : staleB { c with cu := cs, ge := gs } (cuS x s n)
      · obtain ⟨e1, e2⟩ := not_stale.1 e
        have e3 : c.ch = (cuS x s n).ch := e2
        have := h.chr e1
        omega
      · rfl
    have hG : Grows s (cuS x s n) := Grows.same ec
    have hD := dead_same h.ok h'.ok ec hR
    have hI := ids_same ec
    have hnd : n ∈ Gr.deadL s.gr := (mem_dead h.ok).2 ⟨hv, hr⟩
    have hou : ouN (cuS x s n) + (s.outs n).length = ouN s := by
      unfold ouN
      rw [hD]
      have h1 := drop_sum (i := n) (fun z => (s.outs z).length) (fun z => ((cuS x s n).outs z).length) (Gr.inc_nodup (Gr.dead_inc h.ok.ri)) hnd (fun z hz hne => by
        rw [h.ok.cu_outs hv z ((mem_dead h.ok).1 hz).1, if_neg hne])
      have h2 := drop_sum (i := n) (fun z => ((cuS x s n).outs z).length) (fun z => ((cuS x s n).outs z).length) (Gr.inc_nodup (Gr.dead_inc h.ok.ri)) hnd (fun z _ _ => rfl)
      have h3 : ((cuS x s n).outs n).length = 0 := by rw [h.ok.cu_outs hv n hv, if_pos rfl]; rfl
      omega
    have hf := firsts_app s.q (s.outs n)
    rw [← eq_] at hf
    have htd : todo { c with cu := cs, ge := gs } (cuS x s n) + 1 ≤ todo c s := by
      unfold todo
      rw [hc]
      simp only [List.length_cons]
      omega
    rcases hb with ⟨h1, _⟩ | ⟨h1, _⟩ | ⟨_, h2, h3⟩ | ⟨_, h2⟩
    · rw [hns] at h1; cases h1
    · rw [hns] at h1; cases h1
    · refine Or.inr (Or.inr (Or.inr (Or.inl ⟨hst, fun z hz ho => ?_, by omega⟩)))
      rw [hD] at hz
      have hzt := ((mem_dead h.ok).1 hz).1
      rw [h.ok.cu_outs hv z hzt] at ho
      by_cases e : z = n
      · rw [if_pos e] at ho
        exact absurd rfl ho
      · rw [if_neg e] at ho
        have := h2 z hz ho
        rw [vc_head hc hg, if_pos (by simp [vB, hv, hn])] at this
        exact vc_to hG (by rw [ec]; exact hzt) ((List.mem_cons.1 this).resolve_left e)
    · refine Or.inr (Or.inr (Or.inr (Or.inr ⟨hst, ?_⟩)))
      rw [hI]
      omega
  | skip n g cs gs hc hg hv =>
    have hns : staleB c s = true := by
      cases e : staleB c s
      · have := (h.rnd e).2.1
        rw [hc] at this
        cases this
      · rfl
    have htd : todo { c with cu := cs, ge := gs } s + 1 = todo c s := by
      unfold todo
      rw [hc]
      simp only [List.length_cons]
      omega
    have hvc : vc { c with cu := cs, ge := gs } s = vc c s := by
      rw [vc_head hc hg, if_neg (by rw [hv]; simp)]
    rcases hb with ⟨h1, _⟩ | ⟨h1, _⟩ | ⟨_, h2, h3⟩ | ⟨_, h2⟩
    · rw [hns] at h1; cases h1
    · rw [hns] at h1; cases h1
    · refine Or.inr (Or.inr (Or.inr (Or.inl ⟨hns, fun z hz ho => ?_, by omega⟩)))
      rw [hvc]
      exact h2 z hz ho
    · exact Or.inr (Or.inr (Or.inr (Or.inr ⟨hns, by omega⟩)))
  | drain hc hbb =>
    have hns : staleB c s = true := by
      cases e : staleB c s
      · have := (h.rnd e).1
        rw [this] at hbb
        cases hbb
      · rfl
    have hst : staleB c (oneS x s) = true := by
      cases e : staleB c (oneS x s)
      · obtain ⟨e1, e2⟩ := not_stale.1 e
        have := h.chr e1
        rw [one_ch, htk] at e2
        omega
      · rfl
    have hG := (Grows.one h.ok hbb).1
    have hfp := firsts_pop hbb
    have main : todo c (oneS x s) + 1 ≤ todo c s ∧ (Gr.ids (oneS x s).gr).length ≤ (Gr.ids s.gr).length ∧ ∀ z ∈ Gr.deadL (oneS x s).gr, z ∈ Gr.deadL s.gr ∧ takenZ (oneS x s).cs z = true ∧ (oneS x s).outs z = s.outs z := by
      have hsub : ∀ z ∈ Gr.deadL (oneS x s).gr, z ∈ Gr.deadL s.gr ∧ takenZ (oneS x s).cs z = true ∧ (oneS x s).outs z = s.outs z := fun z hz => by
        obtain ⟨a, b⟩ := (mem_dead h'.ok).1 hz
        exact ⟨(mem_dead h.ok).2 ⟨(Grows.one h.ok hbb).2 z a, fun hr => b ((hR z).2 hr)⟩, a, h.ok.one_outs hbb a⟩
      cases hd : diB s
      · have e := one_lo (x := x) hbb hd
        have hcs : (oneS x s).cs = s.cs := by rw [e]; rfl
        have hD := dead_same h.ok h'.ok hcs hR
        refine ⟨?_, by rw [ids_same hcs]; exact Nat.le_refl _, hsub⟩
        have hou := ou_same (s := s) (t := oneS x s) hD (fun z => by rw [e]; rfl)
        have hq : (oneS x s).q = Qu.popS s.q := by rw [e]; rfl
        unfold todo
        rw [hou, hq]
        omega
      · obtain ⟨i, hi, hir, e1, e2, e3⟩ := di_lists h.ok hbb hd
        refine ⟨?_, by rw [e1]; exact List.length_filter_le _ _, hsub⟩
        have hf := firsts_app (Qu.popS s.q) (s.outs i)
        have hou : ouN (oneS x s) + (s.outs i).length = ouN s := by
          unfold ouN
          rw [e2]
          refine drop_sum (fun z => (s.outs z).length) (fun z => ((oneS x s).outs z).length) (Gr.inc_nodup (Gr.dead_inc h.ok.ri)) ((mem_dead h.ok).2 ⟨hi, hir⟩) (fun z hz hne => ?_)
          have : z ∈ Gr.deadL (oneS x s).gr := by
            rw [e2, List.mem_filter]
            exact ⟨hz, by simpa using hne⟩
          rw [(hsub z this).2.2]
        unfold todo
        rw [e3]
        omega
    obtain ⟨htd, hI, hsub⟩ := main
    rcases hb with ⟨h1, _⟩ | ⟨h1, _⟩ | ⟨_, h2, h3⟩ | ⟨_, h2⟩
    · rw [hns] at h1; cases h1
    · rw [hns] at h1; cases h1
    · refine Or.inr (Or.inr (Or.inr (Or.inl ⟨hst, fun z hz ho => ?_, by omega⟩)))
      obtain ⟨a, b, d⟩ := hsub z hz
      rw [d] at ho
      exact vc_to hG b (h2 z a ho)
    · exact Or.inr (Or.inr (Or.inr (Or.inr ⟨hst, by omega⟩)))
  | round hc hq d hd hu0 =>
    obtain ⟨g1, g2, g3, g4, g5, g6, g7, g8⟩ := h.cur hc hq hd
    have hst : staleB { d with un := d.un - 1 } s = false := not_stale.2 ⟨g3, g4⟩
    have htd : todo { d with un := d.un - 1 } s = todo c s := by
      unfold todo
      show d.cu.length + _ + _ = _
      rw [g1, hc]
    have fin : (Gr.deadL s.gr = [] ∧ d.un - 1 ≤ m) ∨ d.un - 1 + (Gr.deadL s.gr).length + todo c s + 3 * alN s ≤ m := by
      unfold alN at *
      rcases hd with ⟨hs, hk, rfl⟩ | ⟨hs, rfl⟩
      · rcases hb with ⟨h1, _⟩ | ⟨h1, _⟩ | ⟨_, h2, h3⟩ | ⟨_, h2⟩
        · rw [hs] at h1; cases h1
        · rw [hs] at h1; cases h1
        · have hcl := h.clean h2 hc hq
          rw [hcl] at g8 hp
          simp only [List.length_nil] at g8 hp
          exact Or.inl ⟨hcl, by omega⟩
        · exact Or.inr (by omega)
      · rcases hb with ⟨_, h1, h2⟩ | ⟨_, h1⟩ | ⟨h1, _⟩ | ⟨h1, _⟩
        · exact Or.inl ⟨h1, by omega⟩
        · exact Or.inr (by omega)
        · rw [hs] at h1; cases h1
        · rw [hs] at h1; cases h1
    rcases fin with ⟨a, b⟩ | a
    · exact Or.inr (Or.inl ⟨hst, a, b⟩)
    · exact Or.inr (Or.inr (Or.inl ⟨hst, by rw [htd]; exact a⟩))
  | last hc hq d hd hu0 =>
    obtain ⟨g1, g2, g3, g4, g5, g6, g7, g8⟩ := h.cur hc hq hd
    have hst : staleB (endC d s) (fgS s d.fr) = true := rfl
    have hk0 : (fgS s d.fr).k = [] := by
      rw [g6]
      refine List.eq_nil_iff_forall_not_mem.2 (fun z hz => ?_)
      have key : ∀ (l k : List Int), z ∈ l.foldl (fun k c => Rt.dropL c k) k → z ∈ k ∧ z ∉ l := by
        intro l
        induction l with
        | nil => intro k hz; exact ⟨hz, by simp⟩
        | cons y r ih =>
          intro k hz
          obtain ⟨a, b⟩ := ih _ hz
          obtain ⟨a1, a2⟩ := Rt.mem_dropL.1 a
          exact ⟨a1, fun hm => (List.mem_cons.1 hm).elim a2 b⟩
      obtain ⟨a, b⟩ := key s.k s.k hz
      exact b a
    have hcov : Gd (endC d s) (fgS s d.fr) := by
      intro z hz _
      have hz' : z ∈ Gr.deadL s.gr := hz
      have hzw : z ∈ d.wh := g5 ▸ hz'
      unfold vc
      rw [List.mem_map]
      refine ⟨(z, genZ s.cs z), List.mem_filter.2 ⟨?_, ?_⟩, rfl⟩
      · show _ ∈ d.wh.zip (d.wh.map (genZ s.cs))
        rw [List.zip_map_right]
        refine List.mem_map.2 ⟨(z, z), ?_, rfl⟩
        obtain ⟨i, hi⟩ := List.mem_iff_getElem?.1 hzw
        exact List.mem_of_getElem? (i := i) (List.getElem?_zip_eq_some.2 ⟨hi, hi⟩)
      · have := ((mem_dead h.ok).1 hz').1
        show (takenZ s.cs z && genZ s.cs z == genZ s.cs z) = true
        rw [this]
        simp
    have hzero : Gr.deadL s.gr = [] → Bd (endC d s) (fgS s d.fr) m := by
      intro e
      left
      have e1 : (endC d s).cu = [] := by show d.wh = []; rw [g5, e]
      have e2 : (fgS s d.fr).q = [] := hq
      unfold uniB
      rw [e1, e2, hk0, hst]
      rfl
    have htd : todo (endC d s) (fgS s d.fr) = (Gr.deadL s.gr).length + ouN s := by
      unfold todo
      show d.wh.length + (Qu.firsts s.q).length + ouN s = _
      rw [g5, hq]
      rfl
    have htc : ouN s ≤ todo c s := by unfold todo; omega
    have hlast : (Gr.deadL s.gr).length + ouN s + 3 * alN s ≤ m → Bd (endC d s) (fgS s d.fr) m := fun e =>
      Or.inr (Or.inr (Or.inr (Or.inl ⟨hst, hcov, by rw [htd]; exact e⟩)))
    unfold alN at *
    rcases hd with ⟨hs, hk, rfl⟩ | ⟨hs, rfl⟩
    · rcases hb with ⟨h1, _⟩ | ⟨h1, _⟩ | ⟨_, h2, h3⟩ | ⟨_, h2⟩
      · rw [hs] at h1; cases h1
      · rw [hs] at h1; cases h1
      · exact hzero (h.clean h2 hc hq)
      · exact hlast (by omega)
    · rcases hb with ⟨_, h1, h2⟩ | ⟨_, h1⟩ | ⟨h1, _⟩ | ⟨h1, _⟩
      · exact hzero h1
      · exact hlast (by omega)
      · rw [hs] at h1; cases h1
      · rw [hs] at h1; cases h1
theorem CI.ends : ∀ (n : Nat) {m : Nat} {c : Cs} {s : Hs}, CI x c s → s.ch + n ≤ 4611686018427380000 → Bd c s m → m ≤ n → uniB (stC x n c s) (stS x n c s) = false
  | 0, m, c, s, h, _, hb, hm => by
    obtain rfl : m = 0 := by omega
    exact hb.zero h
  | n + 1, m, c, s, h, hch, hb, hm => by
    unfold stC stS
    by_cases hu : uniB c s = true
    · rw [if_pos hu, if_pos hu]
      have hk := h.kind hu
      obtain ⟨a1, a2, _⟩ := h.go (by omega) hk
      cases m with
      | zero => rw [hb.zero h] at hu; cases hu
      | succ m => exact CI.ends n a1 (by omega) (hb.go h (by omega) hk hu) (by omega)
    · rw [if_neg hu, if_neg hu]
      have hu' : uniB c s = false := by simpa using hu
      rw [(h.stuck hu').2.2.2.2.2]
      exact stuck_again hu'
/-- Never more than this. -/
theorem firsts_le (h : Ok x s) : (Qu.firsts s.q).length ≤ (Gr.ids s.gr).length := by
  have h1 := Gr.count_sum (Gr.ids s.gr) (Qu.firsts s.q) (Gr.inc_nodup h.ri.inc) (fun z hz => live_iff.2 (h.all_live (by
    have := Qu.mem_firsts.1 hz
    simp [Hs.all, this])))
  have h2 : ∀ l : List Int, (l.map (fun z => (Qu.firsts s.q).count z)).sum ≤ l.length := by
    intro l
    induction l with
    | nil => simp
    | cons y r ih =>
      have : (Qu.firsts s.q).count y ≤ 1 := by
        rw [Qu.firsts_count]
        split <;> omega
      simp only [List.map_cons, List.sum_cons, List.length_cons]
      omega
  have := h2 (Gr.ids s.gr)
  omega
theorem outs_le (h : Ok x s) {z : Int} (hz : takenZ s.cs z = true) : (s.outs z).length ≤ 4 := by
  obtain ⟨i, y, rfl, hi, _⟩ := h.live_lt hz
  obtain ⟨l, hv, hl, _, ho⟩ := h.row hi
  have := (Sh.sl_is h.may i).2.1
  rw [ho]
  unfold ptrs
  rw [List.length_map]
  have := List.length_filter_le (fun y : Vl => y.k == 2) l
  omega
theorem CI.most (h : CI x c s) : Bd c s (16 * x.n + 16) := by
  have hI := h.ok.ids_le
  have hp := part h.ok
  have hf := firsts_le h.ok
  have hs := h.small
  have ho : ouN s ≤ 4 * (Gr.deadL s.gr).length := by
    unfold ouN
    have : ∀ l : List Int, (∀ z ∈ l, (s.outs z).length ≤ 4) → (l.map (fun z => (s.outs z).length)).sum ≤ 4 * l.length := by
      intro l
      induction l with
      | nil => intro _; simp
      | cons y r ih =>
        intro hl
        have h1 := ih (fun z hz => hl z (List.mem_cons_of_mem _ hz))
        have h2 := hl y (List.mem_cons_self ..)
        simp only [List.map_cons, List.sum_cons, List.length_cons]
        omega
    exact this _ (fun z hz => outs_le h.ok ((mem_dead h.ok).1 hz).1)
  cases e : staleB c s
  · obtain ⟨h1, h2, _, _, h5, h6⟩ := h.rnd e
    refine Or.inr (Or.inr (Or.inl ⟨e, ?_⟩))
    unfold todo alN
    rw [h1, h2]
    have : (Qu.firsts ([] : List Int)).length = 0 := rfl
    simp only [List.length_nil]
    omega
  · refine Or.inr (Or.inr (Or.inr (Or.inr ⟨e, ?_⟩)))
    unfold todo alN
    omega
/-- All the dead. -/
theorem CI.all (h : CI x c s) {n : Nat} (hch : s.ch + n ≤ 4611686018427380000) (hn : 16 * x.n + 16 ≤ n) : Gr.deadL (stS x n c s).gr = [] ∧ (stS x n c s).q = [] :=
  (h.st n hch).1.quiet (h.ends n hch h.most hn)
end
end Hp
end Go.Proofs.YtgbbaeojemihjaaGreatDoor

namespace Go.Proofs.YtgbbaeojemihjaaGreatDoor
namespace Hp
open Go.RowKit

section
variable {x : Sh} {c : Cs} {s t : Hs}
theorem uni_stuck (hu : uniB c s = false) : uniC c s = { c with is := false } := by
  unfold uniB at hu
  simp only [Bool.or_eq_false_iff, Bool.not_eq_false', Bool.and_eq_true, List.isEmpty_iff] at hu
  obtain ⟨h1, h2, h3, h4⟩ := hu
  unfold uniC
  rw [h1, h2, h3, h4]
  rfl
theorem st_end (hu : uniB c s = false) : ∀ b, stC x b { c with is := false } s = { c with is := false } ∧ stS x b { c with is := false } s = s ∧ stN x b { c with is := false } s = 0
  | 0 => ⟨rfl, rfl, rfl⟩
  | b + 1 => by
    have h := stuck_again hu
    unfold stC stS stN
    rw [if_neg (by rw [h]; simp), if_neg (by rw [h]; simp), if_neg (by rw [h]; simp)]
    exact ⟨uni_stuck h, rfl, rfl⟩
theorem stC_s (n : Nat) (c : Cs) (s : Hs) : stC x (n + 1) c s = if uniB c s = true then stC x n (uniC c s) (uniS x c s) else uniC c s := rfl
theorem stS_s (n : Nat) (c : Cs) (s : Hs) : stS x (n + 1) c s = if uniB c s = true then stS x n (uniC c s) (uniS x c s) else s := rfl
theorem stN_s (n : Nat) (c : Cs) (s : Hs) : stN x (n + 1) c s = if uniB c s = true then uniN c s + stN x n (uniC c s) (uniS x c s) else 0 := rfl
theorem st_add : ∀ (a b : Nat) (c : Cs) (s : Hs), stC x (a + b) c s = stC x b (stC x a c s) (stS x a c s) ∧ stS x (a + b) c s = stS x b (stC x a c s) (stS x a c s) ∧ stN x (a + b) c s = stN x a c s + stN x b (stC x a c s) (stS x a c s)
  | 0, b, c, s => by
    rw [Nat.zero_add]
    exact ⟨rfl, rfl, by show _ = 0 + stN x b c s; omega⟩
  | a + 1, b, c, s => by
    rw [Nat.add_right_comm, stC_s (x := x) (a + b), stS_s (x := x) (a + b), stN_s (x := x) (a + b), stC_s (x := x) a, stS_s (x := x) a, stN_s (x := x) a]
    by_cases hu : uniB c s = true
    · simp only [hu, if_true]
      obtain ⟨h1, h2, h3⟩ := st_add a b (uniC c s) (uniS x c s)
      rw [h1, h2, h3]
      exact ⟨rfl, rfl, by omega⟩
    · have hu' : uniB c s = false := by simpa using hu
      simp only [hu', Bool.false_eq_true, if_false]
      rw [uni_stuck hu']
      obtain ⟨h1, h2, h3⟩ := st_end (x := x) hu' b
      exact ⟨h1.symm, h2.symm, by rw [h3]; omega⟩
theorem CI.go_len {c' : Cs} {s' : Hs} {n : Int} (h : CI x c s) (hk : Kind x c s c' s' n) : s'.all.length ≤ s.all.length := by
  cases hk with
  | cut n g cs gs hc hg hv hn hr => rw [(h.ok.cu n).2]; exact Nat.le_refl _
  | skip n g cs gs hc hg hv => exact Nat.le_refl _
  | drain hc hb => exact (h.ok.one hb).2
  | round hc hb d hd hu => exact Nat.le_refl _
  | last hc hb d hd hu => rw [(h.ok.fg d.fr).2]; exact Nat.le_refl _
theorem CI.st_len : ∀ (n : Nat) {c : Cs} {s : Hs}, CI x c s → s.ch + n ≤ 4611686018427380000 → (stS x n c s).all.length ≤ s.all.length
  | 0, c, s, _, _ => Nat.le_refl _
  | n + 1, c, s, h, hb => by
    unfold stS
    by_cases hu : uniB c s = true
    · rw [if_pos hu]
      obtain ⟨a1, a2, _⟩ := h.go (by omega) (h.kind hu)
      exact Nat.le_trans (CI.st_len n a1 (by omega)) (h.go_len (h.kind hu))
    · rw [if_neg hu]
      exact Nat.le_refl _
theorem CI.init (h : Ok x (Hs.init x)) (hl : (Hs.init x).all.length ≤ 900) : CI x Cs.init (Hs.init x) := by
  have hno : ∀ z, takenZ (Hs.init x).cs z = false := fun z => by
    cases e : takenZ (Hs.init x).cs z
    · rfl
    · exfalso
      obtain ⟨i, y, rfl, hy, ht⟩ := taken_in e
      have hy' : (c0 x)[i]? = some y := hy
      have hi : i < x.n := by have := (List.getElem?_eq_some_iff.1 hy').1; rw [c0_len] at this; exact this
      rw [c0_at x hi] at hy'
      rw [← Option.some.inj hy'] at ht
      cases ht
  refine ⟨h, hl, fun z hz => ?_, rfl, Nat.zero_le _, fun p hp => ?_, fun z hz => ?_, Int.le_refl _, fun e => ?_, fun e => ?_⟩
  · rw [hno z] at hz; cases hz
  · simp [Cs.init] at hp
  · rw [hno z] at hz; cases hz
  · cases e
  · have := (not_stale.1 e).1
    cases this
/-- Behind a step: what was reached is reached, just that; it lives; it points as it did. -/
theorem CI.kept (h : CI x c s) {n : Nat} (hch : s.ch + n ≤ 4611686018427380000) :
    Gr.reachA (stS x n c s).gr (stS x n c s).r = Gr.reachA s.gr s.r ∧ (∀ z ∈ Gr.reachA s.gr s.r, takenZ (stS x n c s).cs z = true ∧ (stS x n c s).outs z = s.outs z) := by
  obtain ⟨h1, h2, h3, h4, h5⟩ := h.st n hch
  have e : ∀ {t : Hs}, Ok x t → Gr.reachA t.gr t.r = Gr.reachL t.gr t.r := fun ht => by unfold Gr.reachA; rw [if_pos ht.right]
  refine ⟨by rw [e h1.ok, e h.ok]; exact reach_same h.ok h1.ok h4, fun z hz => ?_⟩
  rw [e h.ok, Gr.mem_reach h.ok.ri] at hz
  exact ⟨h1.ok.rch_live ((h4 z).2 hz), h5 z hz⟩
/-- Behind 16 units for each cell, and 16 more. -/
theorem CI.gone (h : CI x c s) {n : Nat} (hch : s.ch + n ≤ 4611686018427380000) (hn : 16 * x.n + 16 ≤ n) :
    Gr.deadA (stS x n c s).gr = [] ∧ (stS x n c s).q = [] ∧ (Gr.ids (stS x n c s).gr).length = (Gr.reachA s.gr s.r).length ∧ stN x n c s = (Gr.ids s.gr).length - (Gr.reachA s.gr s.r).length := by
  obtain ⟨h1, h2, h3, h4, h5⟩ := h.st n hch
  obtain ⟨g1, g2⟩ := h.all hch hn
  have hd := h.all_died n hch
  have hp := part h1.ok
  rw [g1, reach_same h.ok h1.ok h4] at hp
  have e : Gr.reachA s.gr s.r = Gr.reachL s.gr s.r := by unfold Gr.reachA; rw [if_pos h.ok.right]
  rw [e]
  have hl : (Gr.ids (stS x n c s).gr).length = (Gr.reachL s.gr s.r).length := by simpa using hp
  refine ⟨by unfold Gr.deadA; rw [if_pos h1.ok.right, g1], g2, hl, by omega⟩
end
end Hp
end Go.Proofs.YtgbbaeojemihjaaGreatDoor
