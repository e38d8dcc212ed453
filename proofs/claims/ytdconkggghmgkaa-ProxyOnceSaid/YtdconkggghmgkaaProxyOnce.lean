/- For every list of acts ProxyOnce answers true: no pair of an entry and its generation is granted twice; what was granted shows its cell until it is revoked or closed, then never again. No condition. -/
import Derived.Test.YtdconkggghmgkaaPrxK
import Derived.Test.YtdconkggghmgkaaPrxQ
import Derived.Test.YtdconkggghmgkaaPrxS
import Derived.Carry
namespace Go.Proofs.Ytdconkggghmgkaa
open Go.ChangeShapes Go.WideShapes Go.ChangeAt Go.WideMaps Go.WideElems Go.RowKit Go.Deep

set_option maxRecDepth 100000 in
theorem proxyOnce_lifted (os : Os) (started : os.Started) (H : Type) (enc : TypeId × Value → H) :
    ReturnsInHanded {} Try.checked os 4 .any (Rows.proxyOnceSpec.pre6 enc Try.prog Try.f4 Rows.proxyOnceRow.domain false) (Rows.proxyOnceSpec.post enc Try.prog Try.f4 false true false false) := by
  refine returnsInHanded_of_change (C := Try.checked) Try.own started (by kernel_rfl) Try.func4
    (ChangeSpec.witness6 (enc := enc) (C := Try.checked) false ⟨#[], #[.slice none 0 0], []⟩ 8 (by kernel_rfl) (by kernel_rfl) (by kernel_rfl) (by kernel_rfl)) ?_
  intro W base args ds gs before hval0 hW _ _
  have hval : ∀ (j : Nat) t v, Try.f4.params[j]? = some t → args[j]? = some v → Value.okWide Try.prog W .any base t v := hval0
  have hW' := hW
  obtain ⟨p, q, hA0, hV, rfl, hfz, hnd⟩ := hW
  have hA : DataW.TrodAll enc Try.prog W 0 (fun _ => true) true Try.f4.params.toList args.toList ds p := hA0
  rw [Try.params4] at hA hval
  obtain ⟨v0, d0, rfl, rfl, h0⟩ := trodAll_one hA
  obtain ⟨rfl, rfl⟩ := trodVars_none hV
  obtain ⟨A', len, cap', rfl⟩ := okWide_slice Try.underlying22 (hval 0 22 v0 rfl rfl)
  obtain ⟨u1, h0⟩ := h0
  obtain ⟨A, cap, L, e1, hL⟩ := Px.open_acts15 h0
  have E1 := slice_one e1
  clear e1 h0
  clear hA hA0 hval hval0 hfz hnd hV
  rw [E1] at hW' ⊢
  refine (Px.ponce_any Px.table_ok A cap L W hL).mono fun e W' ⟨he, hb⟩ => ?_
  subst he
  have hrd : ∀ t ∈ Try.f4.params.toList, Try.prog.readableRec t = true ∧ t < Try.prog.types.size := by
    rw [Try.params4]
    intro t ht
    have hm : t ∈ [22] := by simpa using ht
    have hall : ([22].all fun u => Try.prog.readableRec u && decide (u < Try.prog.types.size)) = true := by kernel_rfl
    simpa using List.all_eq_true.1 hall t hm
  exact ⟨_, rfl, law_post (tb := 4) rfl rfl Try.underlying4 Try.laidOut hrd hW' rfl rfl rfl hb⟩

theorem proxyOnce_holds : Rows.ProxyOnceSaid :=
  OpenClaim.holds_of_wide 4 Try.f4 rfl rfl rfl rfl rfl rfl rfl ⟨rfl, rfl, rfl, rfl, rfl⟩ rfl rfl rfl rfl rfl (by kernel_rfl) Try.func4 (by kernel_rfl)
    (of_decide_eq_true (by kernel_rfl)) (by unfold Func.isWrapper; first | (rw [if_pos (by decide +kernel)]; kernel_rfl) | (rw [if_neg (by decide +kernel)]; exact ⟨rfl, rfl⟩))
    (fun os started H enc _ => proxyOnce_lifted os started H enc)
#print axioms proxyOnce_holds
end Go.Proofs.Ytdconkggghmgkaa
