/- ArenaKept: for every number of words, every list of acts and every place the law answers true, and leaves its arguments as they were; no condition. -/
import Derived.Test.YtogplppamdbikaaArenaK
import Derived.Carry
namespace Go.Proofs.Ytogplppamdbikaa
open Go.ChangeShapes Go.WideShapes Go.ChangeAt Go.WideMaps Go.WideElems Go.RowKit Go.Deep

set_option maxRecDepth 100000 in
theorem arenaKept_lifted (os : Os) (started : os.Started) (H : Type) (enc : TypeId × Value → H) :
    ReturnsInHanded {} Try.checked os 4 .any (Rows.arenaKeptSpec.pre6 enc Try.prog Try.f4 Rows.arenaKeptRow.domain false) (Rows.arenaKeptSpec.post enc Try.prog Try.f4 false true false false) := by
  refine returnsInHanded_of_change (C := Try.checked) Try.own started (by kernel_rfl) Try.func4
    (ChangeSpec.witness6 (enc := enc) (C := Try.checked) false ⟨#[], #[.int .u16 0, .slice none 0 0, .int .u16 0], []⟩ 8 (by kernel_rfl) (by kernel_rfl) (by kernel_rfl) (by kernel_rfl)) ?_
  intro W base args ds gs before hval0 hW _ _
  have hval : ∀ (j : Nat) t v, Try.f4.params[j]? = some t → args[j]? = some v → Value.okWide Try.prog W .any base t v := hval0
  have hW' := hW
  obtain ⟨p, q, hA0, hV, rfl, hfz, hnd⟩ := hW
  have hA : DataW.TrodAll enc Try.prog W 0 (fun _ => true) true Try.f4.params.toList args.toList ds p := hA0
  rw [Try.params4] at hA hval
  obtain ⟨v0, v1, v2, d0, d1, d2, p0, p1, p2, rfl, rfl, rfl, h0, h1, h2⟩ := trodAll_three hA
  obtain ⟨rfl, rfl⟩ := trodVars_none hV
  obtain ⟨n, rfl, rfl, rfl, wn⟩ := open_int Try.underlying42 (hval 0 42 v0 rfl rfl) h0
  obtain ⟨A', len, cap', rfl⟩ := okWide_slice Try.underlying22 (hval 1 22 v1 rfl rfl)
  obtain ⟨u1, h1⟩ := h1
  obtain ⟨A, cap, L, e1, hlen, hL⟩ := open_acts2 h1
  have E1 := slice_one e1
  clear e1 h1
  obtain ⟨m, rfl, rfl, rfl, wm⟩ := open_int Try.underlying42 (hval 2 42 v2 rfl rfl) h2
  clear hA hA0 hval hval0 hfz hnd hV
  rw [E1] at hW' ⊢
  refine (kept2_any n m A cap L W hL hlen (bounds_u16 wn) (bounds_u16 wm)).mono fun e W' ⟨he, hb⟩ => ?_
  subst he
  have hrd : ∀ t ∈ Try.f4.params.toList, Try.prog.readableRec t = true ∧ t < Try.prog.types.size := by
    rw [Try.params4]
    intro t ht
    have hm : t ∈ [42, 22, 42] := by simpa using ht
    have hall : ([42, 22, 42].all fun u => Try.prog.readableRec u && decide (u < Try.prog.types.size)) = true := by kernel_rfl
    simpa using List.all_eq_true.1 hall t hm
  exact ⟨_, rfl, law_post (tb := 4) rfl rfl Try.underlying4 Try.laidOut hrd hW' rfl rfl rfl hb⟩

theorem arenaKept_holds : Rows.ArenaKeptSaid :=
  OpenClaim.holds_of_wide 4 Try.f4 rfl rfl rfl rfl rfl rfl rfl ⟨rfl, rfl, rfl, rfl, rfl⟩ rfl rfl rfl rfl rfl (by kernel_rfl) Try.func4 (by kernel_rfl)
    (of_decide_eq_true (by kernel_rfl)) (by unfold Func.isWrapper; first | (rw [if_pos (by decide +kernel)]; kernel_rfl) | (rw [if_neg (by decide +kernel)]; exact ⟨rfl, rfl⟩))
    (fun os started H enc _ => arenaKept_lifted os started H enc)
#print axioms arenaKept_holds
end Go.Proofs.Ytogplppamdbikaa
