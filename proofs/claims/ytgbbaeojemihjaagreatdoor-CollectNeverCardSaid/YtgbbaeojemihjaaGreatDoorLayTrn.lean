/- Never the living, in plain words. -/
import Derived.Test.YtgbbaeojemihjaaGreatDoorLayTri
import Derived.Test.YtgbbaeojemihjaaGreatDoorLayGrq
namespace Go.Proofs.YtgbbaeojemihjaaGreatDoor
namespace Tr
open Go.RowKit Go.Maps Gr

/-- Counts that are the graph's own, or greater, by less than 1000; the graph is small. -/
structure Big (G : Gp) (k : List Int) : Prop where
  len : k.length = G.nodes.length
  low : ∀ (i : Nat) (x : Nd) (c : Int), G.nodes[i]? = some x → k[i]? = some c → ((allP G).count x.id : Int) ≤ c ∧ c ≤ ((allP G).count x.id : Int) + 1000
  small : (allP G).length ≤ 100000
section
variable {G : Gp} {k gray : List Int}
theorem ptrs_sub (gray : List Int) (l : List Nd) (z : Int) : (ptrs gray l).count z ≤ (l.flatMap Nd.out).count z := by
  induction l with
  | nil => simp [ptrs]
  | cons n r ih =>
    have e : ptrs gray (n :: r) = ptrs gray [n] ++ ptrs gray r := ptrs_append gray [n] r
    rw [e, List.count_append, ptrs_one, List.flatMap_cons, List.count_append]
    split
    · omega
    · simp; omega
theorem ptrs_lt (gray : List Int) : ∀ (l : List Nd) (z : Int) (n : Nd), n ∈ l → Rt.hasB gray n.id = false → z ∈ n.out → (ptrs gray l).count z < (l.flatMap Nd.out).count z
  | n :: r, z, m, hm, hg, hz => by
    have e : ptrs gray (n :: r) = ptrs gray [n] ++ ptrs gray r := ptrs_append gray [n] r
    rw [e, List.count_append, ptrs_one, List.flatMap_cons, List.count_append]
    have h1 := ptrs_sub gray r z
    rcases List.mem_cons.1 hm with rfl | hm
    · rw [hg]
      have := List.count_pos_iff.2 hz
      simp
      omega
    · have := ptrs_lt gray r z m hm hg hz
      split
      · omega
      · simp; omega
theorem ptrs_all (gray : List Int) : ∀ (l : List Nd) (z : Int), (∀ n ∈ l, z ∈ n.out → Rt.hasB gray n.id = true) → (ptrs gray l).count z = (l.flatMap Nd.out).count z
  | [], z, _ => by simp [ptrs]
  | n :: r, z, h => by
    have e : ptrs gray (n :: r) = ptrs gray [n] ++ ptrs gray r := ptrs_append gray [n] r
    rw [e, List.count_append, ptrs_one, List.flatMap_cons, List.count_append, ptrs_all gray r z (fun m hm => h m (List.mem_cons_of_mem _ hm))]
    cases hg : Rt.hasB gray n.id
    · have : z ∉ n.out := fun hz => by have := h n (List.mem_cons_self ..) hz; rw [hg] at this; cases this
      simp [List.count_eq_zero.2 this]
    · simp
theorem count_allP (G : Gp) (z : Int) : (allP G).count z = G.roots.count z + (G.nodes.flatMap Nd.out).count z := by
  unfold allP
  rw [List.count_append]
/-- A gray one's rest, as it is. -/
theorem rest_big (hr : Ri G) (hb : Big G k) {i : Nat} {x : Nd} (hx : G.nodes[i]? = some x) :
    ∃ c, k[i]? = some c ∧ restV G k gray x.id = c - ((ptrs gray G.nodes).count x.id : Int) ∧ ((allP G).count x.id : Int) ≤ c ∧ c ≤ ((allP G).count x.id : Int) + 1000 := by
  have hi := (List.getElem?_eq_some_iff.1 hx).1
  obtain ⟨c, hc⟩ : ∃ c, k[i]? = some c := ⟨_, List.getElem?_eq_getElem (by rw [hb.len]; exact hi)⟩
  obtain ⟨h1, h2⟩ := hb.low i x c hx hc
  refine ⟨c, hc, ?_, h1, h2⟩
  unfold restV
  rw [restX_at hr hx hc]
  have h3 := ptrs_sub gray G.nodes x.id
  have h4 := count_allP G x.id
  have h5 := List.count_le_length (a := x.id) (l := allP G)
  have h6 := hb.small
  exact wrap64_of (by unfold i64ok; omega)
theorem held_iff {z : Int} : z ∈ heldL G k gray ↔ z ∈ gray ∧ 0 < restV G k gray z := by
  unfold heldL
  rw [List.mem_filter]
  simp
theorem white_iff {z : Int} : z ∈ whiteL G k gray ↔ z ∈ gray ∧ z ∉ reachL G (heldL G k gray) := by
  unfold whiteL
  rw [List.mem_filter]
  simp [hasB_false]
theorem node_of {z : Int} (h : z ∈ ids G) : ∃ (i : Nat) (x : Nd), G.nodes[i]? = some x ∧ x.id = z := by
  obtain ⟨i, hi⟩ := List.mem_iff_getElem?.1 h
  obtain ⟨x, hx, e⟩ := ids_at_inv hi
  exact ⟨i, x, hx, e⟩
/-- What is white is dead. -/
theorem white_dead (hr : Ri G) (hb : Big G k) {c : List Int} {z : Int} (h : z ∈ whiteL G k (reachL G c)) : z ∈ deadL G := by
  obtain ⟨hg, hn⟩ := white_iff.1 h
  refine mem_dead.2 ⟨reach_ids hg, fun hz => hn ?_⟩
  have hR := (mem_reach hr).1 hz
  have key := hR (fun y => y ∈ ids G ∧ (y ∈ reachL G c → y ∈ reachL G (heldL G k (reachL G c)))) (fun x hx hf => ⟨hx, fun hxg => ?_⟩) (fun n hnn hs o ho => ⟨hr.out n hnn o ho, fun hog => ?_⟩)
  · exact key.2 hg
  · obtain ⟨i, y, hy, rfl⟩ := node_of hx
    obtain ⟨d, _, he, h1, _⟩ := rest_big (gray := reachL G c) hr hb hy
    have h3 := ptrs_sub (reachL G c) G.nodes y.id
    have h4 := count_allP G y.id
    have h5 := List.count_pos_iff.2 hf
    exact (mem_reach hr).2 (Rch.start hx (held_iff.2 ⟨hxg, by rw [he]; omega⟩))
  · cases hv : Rt.hasB (reachL G c) n.id
    · have hoi := hr.out n hnn o ho
      obtain ⟨i, y, hy, rfl⟩ := node_of hoi
      obtain ⟨d, _, he, h1, _⟩ := rest_big (gray := reachL G c) hr hb hy
      have h3 := ptrs_lt (reachL G c) G.nodes y.id n hnn hv ho
      have h4 := count_allP G y.id
      exact (mem_reach hr).2 (Rch.start hoi (held_iff.2 ⟨hog, by rw [he]; omega⟩))
    · have h1 := hs.2 (Rt.hasB_iff.1 hv)
      exact (mem_reach hr).2 (((mem_reach hr).1 h1).step hnn ho)
/-- The graph's own counts. -/
theorem own_big (hP : (allP G).length ≤ 100000) : Big G (countsL G) := by
  refine ⟨by unfold countsL; rw [List.length_map, ids_length], fun i x c hx hc => ?_, hP⟩
  unfold countsL at hc
  rw [List.getElem?_map, ids_at hx] at hc
  simp only [Option.map_some, Option.some.injEq] at hc
  omega
/-- With the graph's own counts: if all dead ones are gray, all dead ones are white. -/
theorem dead_white (hr : Ri G) (hP : (allP G).length ≤ 100000) {c : List Int} (hc : ∀ z ∈ deadL G, z ∈ reachL G c) {z : Int} (h : z ∈ deadL G) : z ∈ whiteL G (countsL G) (reachL G c) := by
  refine white_iff.2 ⟨hc z h, fun hz => ?_⟩
  have hR := (mem_reach hr).1 hz
  have key := hR (fun y => y ∈ reachL G G.roots) (fun x hx hf => ?_) (fun n hnn hs o ho => (mem_reach hr).2 (((mem_reach hr).1 hs).step hnn ho))
  · exact (mem_dead.1 h).2 key
  · obtain ⟨hxg, h0⟩ := held_iff.1 hf
    by_cases hxr : x ∈ reachL G G.roots
    · exact hxr
    · exfalso
      obtain ⟨i, y, hy, rfl⟩ := node_of hx
      obtain ⟨d, hd, he, _, _⟩ := rest_big (gray := reachL G c) hr (own_big hP) hy
      have hd' : d = ((allP G).count y.id : Int) := by
        unfold countsL at hd
        rw [List.getElem?_map, ids_at hy] at hd
        simp only [Option.map_some, Option.some.injEq] at hd
        exact hd.symm
      have hroot : G.roots.count y.id = 0 := List.count_eq_zero.2 (fun hm => hxr ((mem_reach hr).2 (Rch.start hx hm)))
      have hall := ptrs_all (reachL G c) G.nodes y.id (fun m hm hz => by
        rw [Rt.hasB_iff]
        refine hc m.id (mem_dead.2 ⟨id_in hm, fun hmr => hxr ?_⟩)
        exact (mem_reach hr).2 (((mem_reach hr).1 hmr).step hm hz))
      have h4 := count_allP G y.id
      rw [he, hd'] at h0
      omega
theorem white_inc (hr : Ri G) (c : List Int) : (whiteL G k (reachL G c)).Pairwise (· < ·) := (reach_inc hr c).filter _
theorem white_is_dead (hr : Ri G) (hP : (allP G).length ≤ 100000) {c : List Int} (hc : ∀ z ∈ deadL G, z ∈ reachL G c) : whiteL G (countsL G) (reachL G c) = deadL G :=
  inc_ext (white_inc hr c) (dead_inc hr) (fun _ => ⟨white_dead hr (own_big hP), dead_white hr hP hc⟩)
end
end Tr
end Go.Proofs.YtgbbaeojemihjaaGreatDoor
