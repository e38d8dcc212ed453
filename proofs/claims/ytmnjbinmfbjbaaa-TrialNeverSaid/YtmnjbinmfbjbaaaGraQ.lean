/- Graphs among the arguments, opened. -/
import Derived.Test.YtmnjbinmfbjbaaaGraB
import Derived.Test.YtmnjbinmfbjbaaaArgs
import Derived.SizedLaws
namespace Go.Proofs.Ytmnjbinmfbjbaaa
namespace Gr
open Go.ChangeShapes Go.WideShapes Go.ChangeAt Go.WideMaps Go.WideElems Go.RowKit Go.Deep

section
variable {H : Type} {enc : TypeId × Value → H} {w : World} {held : Bool} {fuel : Nat} {cs : List Value} {y : DataW H × List MemPlace}
theorem open_ints10 (h : DataW.trod enc Try.prog w 0 (fun _ => true) held fuel 23 cs = some y) : ∃ (L : List Int) (A : Option Addr) (cap : Nat), cs = [.slice A L.length cap] ∧ Rd w (.slice A L.length cap) L := by
  obtain ⟨A, cap, L, rfl, h1, h2, h3⟩ := open_list (fun n => [.int .i64 n]) i64ok 1 Try.underlying23 (by kernel_rfl) (by omega) (fun n cs y ht => by
    obtain ⟨m, e, _, hw⟩ := DataW.trod_int Try.underlying3 ht
    exact ⟨m, bounds_i64 hw, e⟩) h
  refine ⟨L, A, cap, rfl, h2, A, cap, rfl, ?_, ?_, fun j x hx => ?_⟩
  · rcases open_slice Try.underlying23 h with ⟨e, _⟩ | ⟨a, len, cap', m, n, D, Pl, e, _, hlc, hcm, _⟩
    · simp only [List.cons.injEq, Value.slice.injEq, and_true] at e
      omega
    · simp only [List.cons.injEq, Value.slice.injEq, and_true] at e
      omega
  · rcases open_slice Try.underlying23 h with ⟨e, _⟩ | ⟨a, len, cap', m, n, D, Pl, e, _, hlc, hcm, _⟩
    · simp only [List.cons.injEq, Value.slice.injEq, and_true] at e
      omega
    · simp only [List.cons.injEq, Value.slice.injEq, and_true] at e
      unfold maxLen at hcm
      omega
  · obtain ⟨b, o, e, hb, hc⟩ := h3 j x hx
    have := hc 0 _ rfl
    rw [Nat.mul_one, Nat.add_zero] at this
    exact ⟨b, o, e, hb, this⟩
/-- A node, with the value of its Out. -/
structure NdV where
  n : Nd
  A : Option Addr
  cap : Nat
def NdV.cells (x : NdV) : List Value := [.int .i64 x.n.id, .slice x.A x.n.out.length x.cap]
theorem open_node (h : DataW.trod enc Try.prog w 0 (fun _ => true) held fuel 38 cs = some y) : ∃ x : NdV, (i64ok x.n.id ∧ Rd w (.slice x.A x.n.out.length x.cap) x.n.out) ∧ cs = x.cells := by
  obtain ⟨hl, hf⟩ := open_cells Try.underlying38 (by kernel_rfl) (by kernel_rfl) h
  obtain ⟨v0, _, _, e0, t0⟩ := hf 0 _ rfl
  obtain ⟨v1, _, _, e1, t1⟩ := hf 1 _ rfl
  obtain ⟨n0, rfl, b0⟩ := one_int Try.underlying3 t0
  obtain ⟨L, A, cap, e, hr⟩ := open_ints10 t1
  simp only [List.cons.injEq, and_true] at e
  subst e
  exact ⟨⟨⟨n0, L⟩, A, cap⟩, ⟨bounds_i64 b0, hr⟩, two_of hl e0 e1⟩
theorem open_graph (h : DataW.trod enc Try.prog w 0 (fun _ => true) held fuel 25 cs = some y) : ∃ (G : Gp) (a b : Value), cs = [a, b] ∧ GrAt w (.agg #[a, b]) G := by
  obtain ⟨hl, hf⟩ := open_cells Try.underlying25 (by kernel_rfl) (by kernel_rfl) h
  obtain ⟨v0, _, _, e0, t0⟩ := hf 0 _ rfl
  obtain ⟨v1, _, _, e1, t1⟩ := hf 1 _ rfl
  obtain ⟨R, B, cb, e, hr⟩ := open_ints10 t1
  simp only [List.cons.injEq, and_true] at e
  subst e
  obtain ⟨A, cap, L, e, h1, h2, h3⟩ := open_list NdV.cells (fun x => i64ok x.n.id ∧ Rd w (.slice x.A x.n.out.length x.cap) x.n.out) 2 Try.underlying22 (by kernel_rfl) (by omega) (fun n cs y ht => open_node ht) t0
  simp only [List.cons.injEq, and_true] at e
  subst e
  refine ⟨⟨L.map NdV.n, R⟩, _, _, two_of hl e0 e1, A, cap, B, cb, by simp, by simpa using h1, hr, fun k x hx => ?_⟩
  simp only [List.getElem?_map, Option.map_eq_some_iff] at hx
  obtain ⟨z, hz, rfl⟩ := hx
  obtain ⟨b, o, e, hb, hc⟩ := h3 k z hz
  have hm := h2 z (List.mem_of_getElem? hz)
  exact ⟨hm.1, b, o, z.A, z.cap, e, hb, hc 0 _ rfl, hc 1 _ rfl, hm.2⟩
/-- So many nodes as a machine holds. -/
theorem graph_sized {A : Option Addr} {n cap : Nat} {b : Value} (h : DataW.trod enc Try.prog w 0 (fun _ => true) held fuel 25 cs = some y) (hc : cs = [.slice A n cap, b])
    (hw : ∀ k ∈ y.1.weights Try.prog 25, k ≤ reachBytes) : n * 32 ≤ reachBytes := by
  obtain ⟨xs, m, _, rfl, _, hx, hf⟩ := DataW.trod_struct Try.underlying25 h
  have h0 := hf 0 _ rfl
  have hl : xs.length = 2 := hx
  have hcell : Try.prog.cellsOf 22 = 1 := by kernel_rfl
  have hby : Try.prog.bytesOf 38 = 32 := by kernel_rfl
  subst hc
  change DataW.trod enc Try.prog w 0 (fun _ => true) held m 22 (([Value.slice A n cap, b].drop 0).take (Try.prog.cellsOf 22)) = xs[0]? at h0
  rw [hcell, List.getElem?_eq_getElem (by omega)] at h0
  rcases open_slice Try.underlying22 h0 with ⟨e, _⟩ | ⟨a, len, cap', k, n', D, Pl, e, _, _, _, _, ex, _⟩
  · simp at e
    rw [e.2.1]
    exact Nat.zero_le _
  · simp at e
    obtain ⟨_, rfl, rfl⟩ := e
    have hm : (n + (k - n)) * 32 ∈ DataW.weights Try.prog 25 (.agg (xs.map (·.1))) := by
      match xs, hl with
      | [x0, x1], _ =>
        simp only [List.getElem_cons_zero] at ex
        subst ex
        simp [DataW.weights, Try.underlying25, Try.underlying22, DataW.weightsEach, hby]
    have := hw _ hm
    omega
theorem graph_nodes {a b : Value} {G : Gp} (h : DataW.trod enc Try.prog w 0 (fun _ => true) held fuel 25 cs = some y) (hc : cs = [a, b]) (hg : GrAt w (.agg #[a, b]) G)
    (hw : ∀ k ∈ y.1.weights Try.prog 25, k ≤ reachBytes) : G.nodes.length ≤ 4398046511103 := by
  obtain ⟨A, cap, B, cb, e, _⟩ := hg
  simp at e
  obtain ⟨rfl, rfl⟩ := e
  have := graph_sized h hc hw
  unfold reachBytes at this
  omega
end
end Gr
end Go.Proofs.Ytmnjbinmfbjbaaa
