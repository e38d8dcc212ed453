/- ConfTells: for every share, every list of shares and every pair of ints, the law answers true, and leaves its arguments as they were; conf.slots is laid by the program's own text (the card's tie). -/
import Derived.Test.YtalfkhnadflhnaaDoorConfK
import Derived.Test.YtalfkhnadflhnaaDoorCards
import Derived.Test.YtalfkhnadflhnaaDoorTie
import Derived.SevenTiedAt
namespace Go.Proofs.YtalfkhnadflhnaaDoor
open Go.ChangeShapes Go.WideShapes Go.ChangeAt Go.WideMaps Go.WideElems Go.RowKit Go.Deep

theorem gSlots : Tryd.prog.globalNamed "socage/conf.slots" = some 0 := by kernel_rfl
theorem tSlots : (Tryd.prog.globals[0]?).map (·.type) = some 22 := by kernel_rfl
def laidL : List (String × DataW Unit) := [("socage/conf.slots", Rows.laid_socage_conf_slots)]
theorem door_met (os : Os) (args : Array Value) : laidMetH Tryd.prog laidL ((World.doorLaid Tryd.prog 400 os).forCall (fun _ _ => 0) ⟨#[], args, []⟩).memory :=
  laidMetH_of_parts3 (fuel := 8) (laidMet_of_run' 8 (by kernel_rfl) (by kernel_rfl)) (by kernel_rfl) (by kernel_rfl)
theorem of_laid {W : World} (h : laidMetH Tryd.prog laidL W) : Lay W := by
  rw [MakeChecks.laidMetH_plain _ _ _ (by kernel_rfl)] at h
  obtain ⟨ps, ⟨g0, t0, cs0, f0, p0, q0, hg0, ht0, hv0, hd0, _, _⟩, _, _⟩ := h
  obtain rfl := Option.some.inj (gSlots.symm.trans hg0)
  obtain rfl := Option.some.inj (tSlots.symm.trans ht0)
  have hv := fun j => World.var?_cell hg0 hv0 j
  obtain ⟨xs, m, _, hx, hl, hn, hel⟩ := DataW.trod_array Tryd.underlying22 hd0
  rw [Tryd.cArr3] at hl
  obtain ⟨l0⟩ := cs0
  match l0, hl, xs, hn with
  | [c0, c1, c2], _, [x0, x1, x2], _ =>
    simp only [Prod.mk.injEq, DataW.agg.injEq, Rows.laid_socage_conf_slots, List.map_cons, List.map_nil, List.cons.injEq, and_true] at hx
    have e0 := hel 0 (by omega)
    have e1 := hel 1 (by omega)
    have e2 := hel 2 (by omega)
    rw [Tryd.cInt] at e0 e1 e2
    obtain ⟨k0, a0, b0, _⟩ := DataW.trod_int Tryd.underlying3 (show DataW.trod _ Tryd.prog W 0 _ _ m 3 _ = some x0 from e0)
    obtain ⟨k1, a1, b1, _⟩ := DataW.trod_int Tryd.underlying3 (show DataW.trod _ Tryd.prog W 0 _ _ m 3 _ = some x1 from e1)
    obtain ⟨k2, a2, b2, _⟩ := DataW.trod_int Tryd.underlying3 (show DataW.trod _ Tryd.prog W 0 _ _ m 3 _ = some x2 from e2)
    subst b0 b1 b2
    simp at a0 a1 a2 hx
    obtain ⟨⟨rfl, rfl, rfl⟩, _⟩ := hx
    subst a0 a1 a2
    exact ⟨by simpa using hv 0, by simpa using hv 1, by simpa using hv 2⟩

set_option maxRecDepth 100000 in
theorem tells_lifted (os : Os) (started : os.Started) (H : Type) (enc : TypeId × Value → H) :
    ReturnsInHanded {} Tryd.checked os 3 .any (fun w args => (Rows.confTellsSpec.pre enc Tryd.prog Tryd.f3 [] false w args ∧ laidMetH Tryd.prog laidL w) ∧ sizedMet enc Tryd.prog Tryd.f3 (OpenSpec.ofChange Rows.confTellsSpec) false w args)
      (Rows.confTellsSpec.post enc Tryd.prog Tryd.f3 false true false false) := by
  refine returnsInHanded_of_change_and (C := Tryd.checked) (X := fun w _ => laidMetH Tryd.prog laidL w) (fun _ _ _ hh h => h.of_heap hh) Tryd.own started (by kernel_rfl) Tryd.func3
    (ChangeSpec.witness_shaped (enc := enc) (C := Tryd.checked) (os := os) (X := fun w _ => laidMetH Tryd.prog laidL w) false (World.doorLaid Tryd.prog 400 os) #[.agg #[.int .i64 0, .int .i64 0, .int .i64 0, .int .i64 0, .int .i64 0], .slice none 0 0, .agg #[.int .i64 0, .int .i64 0]] 8 rfl (World.shaped_of_RefB (by kernel_rfl) (by kernel_rfl)) (by kernel_rfl) (by kernel_rfl) (by kernel_rfl) (door_met os _)) ?_
  intro W base args ds gs before hval0 hW _ _ hLd _
  have hval : ∀ (j : Nat) t v, Tryd.f3.params[j]? = some t → args[j]? = some v → Value.okWide Tryd.prog W .any base t v := hval0
  have hW' := hW
  obtain ⟨p, q, hA0, hV, rfl, hfz, hnd⟩ := hW
  have hA : DataW.TrodAll enc Tryd.prog W 0 (fun _ => true) true Tryd.f3.params.toList args.toList ds p := hA0
  rw [Tryd.params3] at hA hval
  obtain ⟨v0, v1, v2, d0, d1, d2, p0, p1, p2, rfl, rfl, rfl, h0, h1, h2⟩ := trodAll_three hA
  obtain ⟨rfl, rfl⟩ := trodVars_none hV
  have hLay := of_laid hLd
  obtain ⟨c0, rfl, _⟩ := okWide_struct Tryd.underlying24 (hval 0 24 v0 rfl rfl)
  obtain ⟨A', len, cap', rfl⟩ := okWide_slice Tryd.underlying25 (hval 1 25 v1 rfl rfl)
  obtain ⟨c2, rfl⟩ := okWide_array Tryd.underlying26 (hval 2 26 v2 rfl rfl)
  obtain ⟨u0, h0⟩ := h0
  obtain ⟨u1, h1⟩ := h1
  obtain ⟨u2, h2⟩ := h2
  obtain ⟨x, e0⟩ := open_share h0
  obtain ⟨A, cap, L, e1, hlen, hL⟩ := open_shares h1
  obtain ⟨e2, g2⟩ := open_ints Tryd.underlying26 (by kernel_rfl) h2
  obtain ⟨n, n0, n1⟩ := g2 0 (by omega)
  obtain ⟨t, t0, t1⟩ := g2 1 (by omega)
  have E0 := agg_list e0
  have E1 := slice_one e1
  have E2 := agg_two e2 n0 t0
  clear e0 e1 e2 g2 n0 t0 h0 h1 h2 hA hA0 hval hval0 hfz hnd hV hLd
  rw [E0, E1, E2] at hW' ⊢
  refine (tells_any x n t A cap L W hLay hL hlen n1.2 t1.1).mono fun e W' ⟨he, hb⟩ => ?_
  subst he
  have hrd : ∀ t ∈ Tryd.f3.params.toList, Tryd.prog.readableRec t = true ∧ t < Tryd.prog.types.size := by
    rw [Tryd.params3]
    intro t ht
    have hm : t ∈ [24, 25, 26] := by simpa using ht
    have hall : ([24, 25, 26].all fun u => Tryd.prog.readableRec u && decide (u < Tryd.prog.types.size)) = true := by kernel_rfl
    simpa using List.all_eq_true.1 hall t hm
  exact ⟨_, rfl, law_post (tb := 4) rfl rfl Tryd.underlying4 Tryd.laidOut hrd hW' rfl rfl rfl hb⟩

theorem tells_row : Rows.ConfTellsSaid :=
  OpenClaim.holds_of_wide 3 Tryd.f3 rfl rfl rfl rfl rfl rfl rfl ⟨rfl, rfl, rfl, rfl, rfl⟩ rfl rfl rfl rfl rfl (by kernel_rfl) Tryd.func3 (by kernel_rfl)
    (of_decide_eq_true (by kernel_rfl)) (by unfold Func.isWrapper; first | (rw [if_pos (by decide +kernel)]; kernel_rfl) | (rw [if_neg (by decide +kernel)]; exact ⟨rfl, rfl⟩))
    (fun os started H enc _ => tells_lifted os started H enc)

theorem confTells_holds : Rows.ConfTellsCardSaid :=
  Claim7.holds_tied_plain_at .later [] [.data] true Rows.confTellsCard.stood.harness false
    tells_row (fun _ h => by cases h) (by kernel_rfl) (fun _ h => by cases h) confTells_row_tie rfl ⟨rfl, rfl⟩ (by kernel_rfl) rfl
    (fun f fn hf hfn => by
      obtain rfl : f = 3 := Option.some.inj ((show Tryd.prog.funcNamed "socage/socagelaw01.ConfTells" = some 3 by kernel_rfl).symm.trans hf) |>.symm
      obtain rfl : fn = Tryd.f3 := (Option.some.inj (Tryd.func3.symm.trans hfn)).symm
      exact ⟨by kernel_rfl, fun j t ht => by
        rw [Tryd.params3] at ht
        have hm : t ∈ [24, 25, 26] := by simpa using Array.mem_of_getElem? ht
        have hall : ([24, 25, 26].all fun u => !Tryd.prog.wantsStandIn u) = true := by kernel_rfl
        exact (show Tryd.prog.wantsStandIn t = false by simpa using List.all_eq_true.1 hall t hm)⟩)
    (by kernel_rfl)
#print axioms confTells_holds
end Go.Proofs.YtalfkhnadflhnaaDoor
