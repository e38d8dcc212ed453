/- TrialNever: for every graph, all bytes and all candidates the law answers true, and leaves its arguments as they were; no condition. -/
import Derived.Test.YtmnjbinmfbjbaaaTriP
import Derived.Test.YtmnjbinmfbjbaaaTriQ
import Derived.Carry
namespace Go.Proofs.Ytmnjbinmfbjbaaa
open Go.ChangeShapes Go.WideShapes Go.ChangeAt Go.WideMaps Go.WideElems Go.RowKit Go.Deep

set_option maxRecDepth 100000 in
theorem trialNever_lifted (os : Os) (started : os.Started) (H : Type) (enc : TypeId × Value → H) :
    ReturnsInHanded {} Try.checked os 4 .any (Rows.trialNeverSpec.pre6 enc Try.prog Try.f4 Rows.trialNeverRow.domain false) (Rows.trialNeverSpec.post enc Try.prog Try.f4 false true false false) := by
  refine returnsInHanded_of_change_sized (C := Try.checked) Try.own started (by kernel_rfl) Try.func4
    (ChangeSpec.witness6 (enc := enc) (C := Try.checked) false ⟨#[], #[.agg #[.slice none 0 0, .slice none 0 0], .slice none 0 0, .slice none 0 0], []⟩ 8 (by kernel_rfl) (by kernel_rfl) (by kernel_rfl) (by kernel_rfl)) ?_
  intro W base args ds gs before hval0 hW _ hsz _
  have hval : ∀ (j : Nat) t v, Try.f4.params[j]? = some t → args[j]? = some v → Value.okWide Try.prog W .any base t v := hval0
  have hW' := hW
  obtain ⟨p, q, hA0, hV, rfl, hfz, hnd⟩ := hW
  have hA : DataW.TrodAll enc Try.prog W 0 (fun _ => true) true Try.f4.params.toList args.toList ds p := hA0
  rw [Try.params4] at hA hval
  obtain ⟨v0, v1, v2, d0, d1, d2, p0, p1, p2, rfl, rfl, rfl, h0, h1, h2⟩ := trodAll_three hA
  obtain ⟨rfl, rfl⟩ := trodVars_none hV
  obtain ⟨c0, rfl, _⟩ := okWide_struct Try.underlying25 (hval 0 25 v0 rfl rfl)
  obtain ⟨u0, h0⟩ := h0
  obtain ⟨G, na, nb, e0, hG⟩ := Gr.open_graph h0
  have hn := Gr.graph_nodes h0 e0 hG (fun k hk => by simpa using List.all_eq_true.1 hsz k (DataW.weights_mem_each (j := 0) rfl rfl k hk))
  have E0 := agg_list e0
  clear e0 h0 hsz
  obtain ⟨A', len, cap', rfl⟩ := okWide_slice Try.underlying35 (hval 1 35 v1 rfl rfl)
  obtain ⟨u1, h1⟩ := h1
  obtain ⟨L, A, cap, e1, hR⟩ := Tr.open_bytes h1
  have E1 := slice_one e1
  clear e1 h1
  obtain ⟨B', len', cbp', rfl⟩ := okWide_slice Try.underlying23 (hval 2 23 v2 rfl rfl)
  obtain ⟨u2, h2⟩ := h2
  obtain ⟨M, B, cbp, e2, hS⟩ := Gr.open_ints10 h2
  have E2 := slice_one e2
  clear e2 h2
  clear hA hA0 hval hval0 hfz hnd hV
  rw [E0, E1, E2] at hW' ⊢
  refine (Tr.never_any G L M W _ _ _ hG hR hS hn).mono fun e W' ⟨he, hb⟩ => ?_
  subst he
  have hrd : ∀ t ∈ Try.f4.params.toList, Try.prog.readableRec t = true ∧ t < Try.prog.types.size := by
    rw [Try.params4]
    intro t ht
    have hm : t ∈ [25, 35, 23] := by simpa using ht
    have hall : ([25, 35, 23].all fun u => Try.prog.readableRec u && decide (u < Try.prog.types.size)) = true := by kernel_rfl
    simpa using List.all_eq_true.1 hall t hm
  exact ⟨_, rfl, law_post (tb := 4) rfl rfl Try.underlying4 Try.laidOut hrd hW' rfl rfl rfl hb⟩

theorem trialNever_holds : Rows.TrialNeverSaid :=
  OpenClaim.holds_of_wide 4 Try.f4 rfl rfl rfl rfl rfl rfl rfl ⟨rfl, rfl, rfl, rfl, rfl⟩ rfl rfl rfl rfl rfl (by kernel_rfl) Try.func4 (by kernel_rfl)
    (of_decide_eq_true (by kernel_rfl)) (by unfold Func.isWrapper; first | (rw [if_pos (by decide +kernel)]; kernel_rfl) | (rw [if_neg (by decide +kernel)]; exact ⟨rfl, rfl⟩))
    (fun os started H enc _ => trialNever_lifted os started H enc)
#print axioms trialNever_holds
end Go.Proofs.Ytmnjbinmfbjbaaa
