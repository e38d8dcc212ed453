/- What is still to be looked at: what holds of the nodes that are left, and of the pile; a pile of slices in memory. -/
import Derived.Test.YtmnjbinmfbjbaaaGraG
import Derived.Laws.OwnMore
import Derived.WalkSmall
namespace Go.Proofs.Ytmnjbinmfbjbaaa
namespace Gr
open Go.RowKit Go.Maps

/-- S: what is left; P: the lists on the pile. -/
structure Iv (G : Gp) (fr : List Int) (S : Int → Bool) (P : List (List Int)) : Prop where
  gone : ∀ z ∈ ids G, S z = false → Rch G fr z
  pile : ∀ l ∈ P, ∀ o ∈ l, o ∈ ids G → Rch G fr o
  start : ∀ z ∈ ids G, z ∈ fr → S z = false ∨ ∃ l ∈ P, z ∈ l
  step : ∀ n ∈ G.nodes, S n.id = false → ∀ o ∈ n.out, S o = false ∨ ∃ l ∈ P, o ∈ l
  node : ∀ z, S z = true → z ∈ ids G
section
variable {G : Gp} {fr : List Int} {S : Int → Bool} {P Q : List (List Int)}
theorem Iv.first (fr : List Int) : Iv G fr (Rt.hasB (ids G)) [fr] where
  gone z hz hs := by rw [Rt.hasB_iff.2 hz] at hs; cases hs
  pile l hl o ho hn := by
    simp only [List.mem_singleton] at hl
    subst hl
    exact Rch.start hn ho
  start z hz hf := .inr ⟨fr, by simp, hf⟩
  step n hn hs o ho := by
    have : n.id ∈ ids G := List.mem_map.2 ⟨n, hn, rfl⟩
    rw [Rt.hasB_iff.2 this] at hs; cases hs
  node z hz := Rt.hasB_iff.1 hz
theorem Iv.pop {top : List Int} (h : Iv G fr S (Q ++ [top])) (ht : ∀ z ∈ top, S z = false) : Iv G fr S Q where
  gone := h.gone
  pile l hl := h.pile l (by simp [hl])
  start z hz hf := by
    rcases h.start z hz hf with h1 | ⟨l, hl, hm⟩
    · exact .inl h1
    · rcases List.mem_append.1 hl with hl | hl
      · exact .inr ⟨l, hl, hm⟩
      · simp only [List.mem_singleton] at hl
        subst hl
        exact .inl (ht z hm)
  step n hn hs o ho := by
    rcases h.step n hn hs o ho with h1 | ⟨l, hl, hm⟩
    · exact .inl h1
    · rcases List.mem_append.1 hl with hl | hl
      · exact .inr ⟨l, hl, hm⟩
      · simp only [List.mem_singleton] at hl
        subst hl
        exact .inl (ht o hm)
  node := h.node
theorem Iv.look (hr : Ri G) {top : List Int} {j : Nat} {x : Nd} (h : Iv G fr S (Q ++ [top])) (hx : x ∈ G.nodes) (hj : top[j]? = some x.id) (ht : ∀ k z, k < j → top[k]? = some z → S z = false) :
    Iv G fr (fun z => S z && !(x.id == z)) (Q ++ [top.drop (j + 1)] ++ [x.out]) := by
  have hxi : x.id ∈ ids G := List.mem_map.2 ⟨x, hx, rfl⟩
  have hxr : Rch G fr x.id := h.pile top (by simp) x.id (List.mem_of_getElem? hj) hxi
  have hcov : ∀ z, (S z = false ∨ ∃ l ∈ Q ++ [top], z ∈ l) → (S z && !(x.id == z)) = false ∨ ∃ l ∈ Q ++ [top.drop (j + 1)] ++ [x.out], z ∈ l := by
    intro z hz
    rcases hz with hz | ⟨l, hl, hm⟩
    · exact .inl (by simp [hz])
    · rcases List.mem_append.1 hl with hl | hl
      · exact .inr ⟨l, by simp [hl], hm⟩
      · simp only [List.mem_singleton] at hl
        subst hl
        obtain ⟨k, hk⟩ := List.mem_iff_getElem?.1 hm
        rcases Nat.lt_trichotomy k j with hkj | rfl | hkj
        · exact .inl (by simp [ht k z hkj hk])
        · rw [hj] at hk
          simp only [Option.some.injEq] at hk
          exact .inl (by simp [hk])
        · refine .inr ⟨l.drop (j + 1), by simp, List.mem_iff_getElem?.2 ⟨k - (j + 1), ?_⟩⟩
          rw [List.getElem?_drop, show j + 1 + (k - (j + 1)) = k by omega]
          exact hk
  refine ⟨fun z hz hs => ?_, fun l hl o ho hn => ?_, fun z hz hf => hcov z (h.start z hz hf), fun n hn hs o ho => ?_, fun z hz => h.node z (by simp at hz; exact hz.1)⟩
  · by_cases e : x.id = z
    · exact e ▸ hxr
    · exact h.gone z hz (by simpa [e] using hs)
  · simp only [List.mem_append, List.mem_singleton] at hl
    rcases hl with (hl | rfl) | rfl
    · exact h.pile l (by simp [hl]) o ho hn
    · exact h.pile top (by simp) o (List.mem_of_mem_drop ho) hn
    · exact hxr.step hx ho
  · by_cases e : x.id = n.id
    · obtain ⟨i, hi⟩ := List.mem_iff_getElem?.1 hx
      obtain ⟨k, hk⟩ := List.mem_iff_getElem?.1 hn
      obtain rfl := same_id hr hi hk e
      rw [hi] at hk
      obtain rfl : x = n := by simpa using hk
      exact .inr ⟨x.out, by simp, ho⟩
    · exact hcov o (h.step n hn (by simpa [e] using hs) o ho)
/-- At the end just those are left that are not reached. -/
theorem Iv.done (hr : Ri G) (h : Iv G fr S []) (z : Int) : S z = (Rt.hasB (ids G) z && !Rt.hasB (reachL G fr) z) := by
  by_cases hz : z ∈ ids G
  · rw [Rt.hasB_iff.2 hz, Bool.true_and]
    cases hs : S z
    · have := (mem_reach hr).2 (h.gone z hz hs)
      rw [Rt.hasB_iff.2 this]; rfl
    · cases hh : Rt.hasB (reachL G fr) z
      · rfl
      · exfalso
        have hR := (mem_reach hr).1 (Rt.hasB_iff.1 hh)
        have := hR (fun y => S y = false) (fun x hx hf => by
          rcases h.start x hx hf with h1 | ⟨l, hl, _⟩
          · exact h1
          · cases hl) (fun n hn hs o ho => by
          rcases h.step n hn hs o ho with h1 | ⟨l, hl, _⟩
          · exact h1
          · cases hl)
        rw [hs] at this
        cases this
  · have h1 : Rt.hasB (ids G) z = false := by
      cases hh : Rt.hasB (ids G) z
      · rfl
      · exact absurd (Rt.hasB_iff.1 hh) hz
    rw [h1, Bool.false_and]
    cases hs : S z
    · rfl
    · exact absurd (h.node z hs) hz
end

/-! ### a pile of slices -/
set_option maxRecDepth 100000 in
theorem Try.infoInts : (Try.prog.info? 23).map (fun i => (i.zero, i.size, i.bytes)) = some (some (.slice none 0 0), 1, 24) := by kernel_rfl
/-- The pile: its values, each with its ints, that read so in w0. -/
structure Pl (w0 wr : World) (B : Nat) (pv : Value) (vs : List Value) (P : List (List Int)) : Prop where
  row : wr.ownsRow B 23 1 pv vs.length vs
  len : vs.length = P.length
  rd : ∀ (i : Nat) (v : Value) (l : List Int), vs[i]? = some v → P[i]? = some l → Rd w0 v l
section
variable {w0 wr wr' : World} {B : Nat} {pv : Value} {vs : List Value} {P : List (List Int)}
theorem Pl.kept {row : Option Nat} (h : Pl w0 wr B pv vs P) (hg : wr.grownBy wr' row) (hne : pv.ownBlock = none ∨ pv.ownBlock ≠ row) : Pl w0 wr' B pv vs P := ⟨h.row.kept hg hne, h.len, h.rd⟩
theorem Pl.ne_map (h : Pl w0 wr B pv vs P) {m : Nat} {es : Array MapEntry} {c : Nat} (hm : wr.heap[m]? = some (.map es c)) : ∀ g, pv.ownBlock = some g → g ≠ m := by
  rintro g hg rfl
  rcases h.row.2 with ⟨rfl, _⟩ | ⟨g', cap, cur, rfl, _, hb, _⟩
  · simp [Value.ownBlock] at hg
  · have : g' = g := by simpa [Value.ownBlock] using hg
    subst this
    rw [hm] at hb
    cases hb
theorem Pl.snoc {v : Value} {l : List Int} (h : Pl w0 wr B pv vs P) {pv' : Value} (hrow : wr'.ownsRow B 23 1 pv' (vs ++ [v]).length (vs ++ [v])) (hv : Rd w0 v l) : Pl w0 wr' B pv' (vs ++ [v]) (P ++ [l]) := by
  refine ⟨hrow, by simp [h.len], fun i u k hu hk => ?_⟩
  by_cases hi : i < vs.length
  · rw [List.getElem?_append_left hi] at hu
    rw [List.getElem?_append_left (by rw [← h.len]; exact hi)] at hk
    exact h.rd i u k hu hk
  · rw [List.getElem?_append_right (by omega)] at hu
    rw [List.getElem?_append_right (by have := h.len; omega), ← h.len] at hk
    have hi0 : i - vs.length = 0 := by have := (List.getElem?_eq_some_iff.1 hu).1; simp at this; omega
    rw [hi0] at hu hk
    simp at hu hk
    rw [← hu, ← hk]
    exact hv
end
theorem Rd.cut {w : World} {A : Option Addr} {cap : Nat} {L : List Int} {j : Nat} (h : Rd w (.slice A L.length cap) L) (hj : j < L.length) :
    ∃ A', sliced A (j + 1) L.length cap 1 = .slice A' (L.drop (j + 1)).length (cap - (j + 1)) ∧ Rd w (.slice A' (L.drop (j + 1)).length (cap - (j + 1))) (L.drop (j + 1)) := by
  obtain ⟨ho, A0, c0, e, h1, h2, h3⟩ := h
  simp only [Value.slice.injEq, true_and] at e
  obtain ⟨rfl, rfl⟩ := e
  refine ⟨_, by unfold sliced; rw [List.length_drop], fun x hx => ho x (List.mem_of_mem_drop hx), _, _, rfl, by rw [List.length_drop]; omega, by omega, fun k x hx => ?_⟩
  rw [List.getElem?_drop] at hx
  obtain ⟨b, o, rfl, hb, hc⟩ := h3 _ x hx
  have hlt := (List.getElem?_eq_some_iff.1 hx).1
  refine ⟨b, o + (j + 1), ?_, hb, ?_⟩
  · rw [if_neg (by omega)]
    simp [Addr.add]
  · rw [Nat.add_assoc]
    exact hc

section
variable (w : World)
/-- One more slice behind a row of slices. -/
theorem wpList_append_v {ops : Array Oper} {rest : List Oper} {o : Oper} {a : Act} {Q : Exit → Act → World → Prop} (hgd : o.guard = none) (s x : Operand)
    (ho : o.op = .call { callee := .builtin .append, args := #[s, x], argTypes := #[59, 59] })
    (B : Nat) (v : Value) (vs : List Value) (hs : a.eval s = v) (h : w.ownsRow B 23 1 v vs.length vs) (ad : Addr) (c : Nat) (y : Value) (hx : a.eval x = .slice (some ad) 1 c) (hy : w.cell? ad = some y) (h1 : y.oneCell' = true) (hlen : vs.length ≤ 100000) (hB : B ≤ w.heap.size)
    (hK : ∀ v' w', w'.ownsRow B 23 1 v' (vs ++ [y]).length (vs ++ [y]) → w.grownBy w' v.ownBlock → wpList Try.prog ops Q rest (a.put o.dst v') w') : wpList Try.prog ops Q (o :: rest) a w := by
  obtain ⟨i0, hi0, hz0, hz1, hz2⟩ := info_parts Try.infoInts
  refine wpList_append_own w hgd s x 59 ho B 23 i0 (.slice none 0 0) 1 24 Try.underlying59 hi0 hz0 hz1 hz2 rfl (by decide) v vs.length vs hs h ad 1 c [y] hx rfl ?_ ?_ (by unfold maxLen; omega) (by omega) hB ?_
  · intro q u hq
    match q, hq with
    | 0, hq => simp at hq; subst hq; rw [show ad.add 0 = ad by cases ad; unfold Addr.add; split <;> simp_all]; exact hy
  · intro u hu; simp at hu; subst hu; exact h1
  · intro v' w' hown hg _
    exact hK v' w' (by simpa using hown) hg
end
end Gr
end Go.Proofs.Ytmnjbinmfbjbaaa
