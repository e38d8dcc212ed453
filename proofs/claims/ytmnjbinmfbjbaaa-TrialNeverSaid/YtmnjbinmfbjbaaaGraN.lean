/- Closed, in plain words. -/
import Derived.Test.YtmnjbinmfbjbaaaGraM
namespace Go.Proofs.Ytmnjbinmfbjbaaa
namespace Gr
open Go.RowKit Go.Maps

section
variable {G : Gp} {fr : List Int}
theorem hasB_false {l : List Int} {z : Int} : Rt.hasB l z = false ↔ z ∉ l := by
  rw [← Rt.hasB_iff]
  simp
theorem mem_dead {z : Int} : z ∈ deadL G ↔ z ∈ ids G ∧ z ∉ reachL G G.roots := by
  unfold deadL
  rw [List.mem_filter]
  simp [hasB_false]
theorem id_in {n : Nd} (h : n ∈ G.nodes) : n.id ∈ ids G := List.mem_map.2 ⟨n, h, rfl⟩
/-- What a pointer says: who is reached points to the reached alone; none but the dead point to the dead. -/
theorem point_facts (hr : Ri G) {n m : Nd} (hm : m ∈ G.nodes) (hp : Rt.hasB m.out n.id = true) :
    (Rt.hasB (reachL G fr) m.id = true → Rt.hasB (reachL G fr) n.id = true) ∧ (Rt.hasB (deadL G) m.id = false → Rt.hasB (deadL G) n.id = false) := by
  have hp := Rt.hasB_iff.1 hp
  refine ⟨fun h => ?_, fun h => ?_⟩
  · rw [Rt.hasB_iff] at h ⊢
    exact (mem_reach hr).2 (((mem_reach hr).1 h).step hm hp)
  · rw [hasB_false] at h ⊢
    intro hd
    have h1 : m.id ∈ reachL G G.roots := by
      by_cases hx : m.id ∈ reachL G G.roots
      · exact hx
      · exact absurd (mem_dead.2 ⟨id_in hm, hx⟩) h
    exact (mem_dead.1 hd).2 ((mem_reach hr).2 (((mem_reach hr).1 h1).step hm hp))
def ptd (G : Gp) (r : List Int) (i : Nat) : Nat → Bool
  | 0 => false
  | k + 1 => ptd G r i k || (Rt.hasB (outAt G k) (idAt G i) && Rt.hasB r (idAt G k) && decide (k ≠ i))
theorem ptd_true {r : List Int} {i : Nat} : ∀ {k : Nat}, ptd G r i k = false → ∀ j, j < k → (Rt.hasB (outAt G j) (idAt G i) && Rt.hasB r (idAt G j) && decide (j ≠ i)) = false
  | k + 1, h, j, hj => by
    unfold ptd at h
    rw [Bool.or_eq_false_iff] at h
    by_cases e : j = k
    · subst e; exact h.2
    · exact ptd_true h.1 j (by omega)
/-- What a node says, behind all pointers. -/
theorem node_facts (hr : Ri G) {i : Nat} {n : Nd} (hi : G.nodes[i]? = some n) :
    (Rt.hasB fr n.id = true → Rt.hasB (reachL G fr) n.id = true) ∧ (Rt.hasB fr n.id = false → Rt.hasB (reachL G fr) n.id = true → ptd G (reachL G fr) i G.nodes.length = true) ∧ (Rt.hasB G.roots n.id = true → Rt.hasB (deadL G) n.id = false) := by
  have hn := List.mem_of_getElem? hi
  refine ⟨fun h => ?_, fun h h2 => ?_, fun h => ?_⟩
  · rw [Rt.hasB_iff] at h ⊢
    exact (mem_reach hr).2 (Rch.start (id_in hn) h)
  · rw [hasB_false] at h
    rw [Rt.hasB_iff] at h2
    cases hp : ptd G (reachL G fr) i G.nodes.length
    · exfalso
      have hno := ptd_true hp
      have hR := (mem_reach hr).1 h2
      have := hR (fun z => z ∈ reachL G fr ∧ z ≠ n.id) (fun x hx hf => ⟨(mem_reach hr).2 (Rch.start hx hf), fun e => h (e ▸ hf)⟩) (fun m hm hs o ho => ⟨(mem_reach hr).2 (((mem_reach hr).1 hs.1).step hm ho), fun e => ?_⟩)
      · exact this.2 rfl
      · subst e
        obtain ⟨k, hk⟩ := List.mem_iff_getElem?.1 hm
        have h3 := hno k (List.getElem?_eq_some_iff.1 hk).1
        rw [outAt_is hk, idAt_is hk, idAt_is hi, Rt.hasB_iff.2 ho, Rt.hasB_iff.2 hs.1] at h3
        have hki : k ≠ i := by
          rintro rfl
          rw [hi] at hk
          exact hs.2 (by simp at hk; rw [hk])
        simp [hki] at h3
    · rfl
  · rw [hasB_false]
    intro hd
    exact (mem_dead.1 hd).2 ((mem_reach hr).2 (Rch.start (id_in hn) (Rt.hasB_iff.1 h)))
theorem again (hr : Ri G) : reachL G (reachL G fr) = reachL G fr := by
  refine inc_ext (reach_inc hr _) (reach_inc hr _) (fun z => ?_)
  constructor
  · intro h
    refine (mem_reach hr).1 h (fun x => x ∈ reachL G fr) (fun x _ hx => hx) (fun n hn hs o ho => (mem_reach hr).2 (((mem_reach hr).1 hs).step hn ho))
  · intro h
    exact (mem_reach hr).2 (Rch.start (reach_ids h) h)

/-! ### counts add up -/
def sumL (m : List Int) : List Nd → Int
  | [] => 0
  | n :: r => ((m.count n.id : Nat) : Int) - (n.out.length : Nat) + sumL m r
def sumP (G : Gp) (j : Nat) : Int := sumL (allP G) (G.nodes.take j)
theorem sumL_snoc (m : List Int) (n : Nd) : ∀ l, sumL m (l ++ [n]) = sumL m l + ((m.count n.id : Nat) : Int) - (n.out.length : Nat)
  | [] => by simp [sumL]
  | x :: r => by
    simp only [List.cons_append, sumL, sumL_snoc m n r]
    omega
theorem sumP_succ {j : Nat} {n : Nd} (h : G.nodes[j]? = some n) : sumP G (j + 1) = sumP G j + (((allP G).count n.id : Nat) : Int) - (n.out.length : Nat) := by
  obtain ⟨hj, rfl⟩ := List.getElem?_eq_some_iff.1 h
  unfold sumP
  rw [List.take_succ_eq_append_getElem hj, sumL_snoc]
theorem sumL_bound (m : List Int) (hm : m.length ≤ 930) : ∀ l : List Nd, (∀ n ∈ l, n.out.length ≤ 30) → -(1000 * (l.length : Int)) ≤ sumL m l ∧ sumL m l ≤ 1000 * (l.length : Int)
  | [], _ => by simp [sumL]
  | n :: r, h => by
    have ih := sumL_bound m hm r (fun x hx => h x (List.mem_cons_of_mem _ hx))
    have hn := h n (List.mem_cons_self ..)
    have hc := List.count_le_length (a := n.id) (l := m)
    simp only [sumL, List.length_cons]
    omega
theorem sumP_bound (hf : fitsB G = true) (j : Nat) : -30000 ≤ sumP G j ∧ sumP G j ≤ 30000 := by
  obtain ⟨h1, _, h3, h4⟩ := fits_facts hf
  have := sumL_bound (allP G) h4 (G.nodes.take j) (fun n hn => h3 n (List.mem_of_mem_take hn))
  have hl : (G.nodes.take j).length ≤ 30 := by rw [List.length_take]; omega
  unfold sumP
  omega
theorem sumL_parts (m : List Int) : ∀ l : List Nd, sumL m l = (((l.map Nd.id).map (fun z => m.count z)).sum : Nat) - ((l.flatMap Nd.out).length : Nat)
  | [] => by simp [sumL]
  | n :: r => by
    simp only [sumL, sumL_parts m r, List.map_cons, List.sum_cons, List.flatMap_cons, List.length_append]
    omega
theorem count_sum : ∀ (l m : List Int), l.Nodup → (∀ z ∈ m, z ∈ l) → (l.map (fun z => m.count z)).sum = m.length
  | [], m, _, h => by
    cases m with
    | nil => rfl
    | cons z r => exact absurd (h z (List.mem_cons_self ..)) (by simp)
  | a :: l, m, hn, h => by
    obtain ⟨ha, hn'⟩ := List.nodup_cons.1 hn
    have ih := count_sum l (m.filter (fun z => z != a)) hn' (fun z hz => by
      obtain ⟨h1, h2⟩ := List.mem_filter.1 hz
      rcases List.mem_cons.1 (h z h1) with rfl | h3
      · simp at h2
      · exact h3)
    have e1 : l.map (fun z => (m.filter (fun z => z != a)).count z) = l.map (fun z => m.count z) := by
      refine List.map_congr_left (fun z hz => ?_)
      have hza : z ≠ a := fun e => ha (e ▸ hz)
      rw [List.count_filter (by simpa using hza)]
    rw [e1] at ih
    rw [List.map_cons, List.sum_cons, ih]
    have e2 : ∀ m : List Int, m.count a + (m.filter (fun z => z != a)).length = m.length := by
      intro m
      induction m with
      | nil => rfl
      | cons y r ih =>
        by_cases e : y = a
        · subst e
          simp
          omega
        · simp [e]
          omega
    exact e2 m
theorem sum_all (hr : Ri G) : sumP G G.nodes.length = (G.roots.length : Int) := by
  unfold sumP
  rw [List.take_length, sumL_parts]
  have h1 : (((G.nodes.map Nd.id).map (fun z => (allP G).count z)).sum : Nat) = (allP G).length := count_sum (ids G) (allP G) (inc_nodup hr.inc) (fun z hz => by
    unfold allP at hz
    rcases List.mem_append.1 hz with hz | hz
    · exact hr.root z hz
    · obtain ⟨n, hn, ho⟩ := List.mem_flatMap.1 hz
      exact hr.out n hn z ho)
  rw [h1]
  unfold allP
  rw [List.length_append]
  omega
end
end Gr
end Go.Proofs.Ytmnjbinmfbjbaaa
