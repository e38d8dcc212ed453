/- CellsFresh: for every share, list of acts and other cell the law answers true, and leaves its arguments as they were; the table conf.slots is laid by the program's own text (the card's tie); no other condition. -/
import Derived.Test.YtplneoapcadlnaaDoorFreshC
import Derived.Test.YtplneoapcadlnaaDoorCellY
import Derived.Test.YtplneoapcadlnaaDoorCards
import Derived.Test.YtplneoapcadlnaaDoorTie
import Derived.SevenTiedAt
import Derived.Carry
namespace Go.Proofs.YtplneoapcadlnaaDoor
open Go.ChangeShapes Go.WideShapes Go.ChangeAt Go.WideMaps Go.WideElems Go.RowKit Go.Deep

set_option maxRecDepth 100000 in
theorem cellsFresh_lifted (os : Os) (started : os.Started) (H : Type) (enc : TypeId × Value → H) :
    ReturnsInHanded {} Tryd.checked os 4 .any (fun w args => (Rows.cellsFreshSpec.pre enc Tryd.prog Tryd.f4 [] false w args ∧ laidMetH Tryd.prog laidL w) ∧ sizedMet enc Tryd.prog Tryd.f4 (OpenSpec.ofChange Rows.cellsFreshSpec) false w args)
      (Rows.cellsFreshSpec.post enc Tryd.prog Tryd.f4 false true false false) := by
  refine returnsInHanded_of_change_and (C := Tryd.checked) (X := fun w _ => laidMetH Tryd.prog laidL w) (fun _ _ _ hh h => h.of_heap hh) Tryd.own started (by kernel_rfl) Tryd.func4
    (ChangeSpec.witness_shaped (enc := enc) (C := Tryd.checked) (os := os) (X := fun w _ => laidMetH Tryd.prog laidL w) false (World.doorLaid Tryd.prog 400 os) #[.agg #[.int .i64 0, .int .i64 0, .int .i64 0, .int .i64 0, .int .i64 0], .slice none 0 0, .int .u8 0] 8 rfl (World.shaped_of_RefB (by kernel_rfl) (by kernel_rfl)) (by kernel_rfl) (by kernel_rfl) (by kernel_rfl) (door_met os _)) ?_
  intro W base args ds gs before hval0 hW _ _ hLd _
  have hval : ∀ (j : Nat) t v, Tryd.f4.params[j]? = some t → args[j]? = some v → Value.okWide Tryd.prog W .any base t v := hval0
  have hW' := hW
  obtain ⟨p, q, hA0, hV, rfl, hfz, hnd⟩ := hW
  have hA : DataW.TrodAll enc Tryd.prog W 0 (fun _ => true) true Tryd.f4.params.toList args.toList ds p := hA0
  rw [Tryd.params4] at hA hval
  obtain ⟨v0, v1, v2, d0, d1, d2, p0, p1, p2, rfl, rfl, rfl, h0, h1, h2⟩ := trodAll_three hA
  obtain ⟨rfl, rfl⟩ := trodVars_none hV
  have hT := of_laid hLd
  obtain ⟨c0, rfl, _⟩ := okWide_struct Tryd.underlying24 (hval 0 24 v0 rfl rfl)
  obtain ⟨u0, h0⟩ := h0
  obtain ⟨x, e0⟩ := open_share h0
  have E0 := agg_list e0
  clear e0 h0
  obtain ⟨A', len, cap', rfl⟩ := okWide_slice Tryd.underlying26 (hval 1 26 v1 rfl rfl)
  obtain ⟨u1, h1⟩ := h1
  obtain ⟨A, cap, L, e1, hlen, hL⟩ := open_acts7 h1
  have E1 := slice_one e1
  clear e1 h1
  obtain ⟨o, rfl, rfl, rfl, ho⟩ := open_int Tryd.underlying5 (hval 2 5 v2 rfl rfl) h2
  clear hA hA0 hval hval0 hfz hnd hV hLd
  rw [E0, E1] at hW' ⊢
  refine (fresh_any x o A cap L W hT hL (bounds_u8 ho)).mono fun e W' ⟨he, hb⟩ => ?_
  subst he
  have hrd : ∀ t ∈ Tryd.f4.params.toList, Tryd.prog.readableRec t = true ∧ t < Tryd.prog.types.size := by
    rw [Tryd.params4]
    intro t ht
    have hm : t ∈ [24, 26, 5] := by simpa using ht
    have hall : ([24, 26, 5].all fun u => Tryd.prog.readableRec u && decide (u < Tryd.prog.types.size)) = true := by kernel_rfl
    simpa using List.all_eq_true.1 hall t hm
  exact ⟨_, rfl, law_post (tb := 4) rfl rfl Tryd.underlying4 Tryd.laidOut hrd hW' rfl rfl rfl hb⟩

theorem cellsFresh_row : Rows.CellsFreshSaid :=
  OpenClaim.holds_of_wide 4 Tryd.f4 rfl rfl rfl rfl rfl rfl rfl ⟨rfl, rfl, rfl, rfl, rfl⟩ rfl rfl rfl rfl rfl (by kernel_rfl) Tryd.func4 (by kernel_rfl)
    (of_decide_eq_true (by kernel_rfl)) (by unfold Func.isWrapper; first | (rw [if_pos (by decide +kernel)]; kernel_rfl) | (rw [if_neg (by decide +kernel)]; exact ⟨rfl, rfl⟩))
    (fun os started H enc _ => cellsFresh_lifted os started H enc)

theorem cellsFresh_holds : Rows.CellsFreshCardSaid :=
  Claim7.holds_tied_plain_at .later [] [.data] true Rows.cellsFreshCard.stood.harness true
    cellsFresh_row (fun _ h => by cases h) (by kernel_rfl) (fun _ h => by cases h) cellsFresh_row_tie rfl ⟨rfl, rfl⟩ (by kernel_rfl) rfl
    (fun f fn hf hfn => by
      obtain rfl : f = 4 := Option.some.inj ((show Tryd.prog.funcNamed "socage/socagelaw07.CellsFresh" = some 4 by kernel_rfl).symm.trans hf) |>.symm
      obtain rfl : fn = Tryd.f4 := (Option.some.inj (Tryd.func4.symm.trans hfn)).symm
      exact ⟨by kernel_rfl, fun j t ht => by
        rw [Tryd.params4] at ht
        have hm : t ∈ [24, 26, 5] := by simpa using Array.mem_of_getElem? ht
        have hall : ([24, 26, 5].all fun u => !Tryd.prog.wantsStandIn u) = true := by kernel_rfl
        exact (show Tryd.prog.wantsStandIn t = false by simpa using List.all_eq_true.1 hall t hm)⟩)
    (by kernel_rfl)
#print axioms cellsFresh_holds
end Go.Proofs.YtplneoapcadlnaaDoor
