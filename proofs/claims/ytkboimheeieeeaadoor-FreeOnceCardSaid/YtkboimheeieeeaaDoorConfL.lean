/- conf.slots as it is laid. -/
import Derived.Test.YtkboimheeieeeaaDoorConfK
namespace Go.Proofs.YtkboimheeieeeaaDoor
open Go.ChangeShapes Go.WideShapes Go.ChangeAt Go.WideMaps Go.WideElems Go.RowKit Go.Deep

theorem gSlots : Tryd.prog.globalNamed "socage/conf.slots" = some 0 := by kernel_rfl
theorem tSlots : (Tryd.prog.globals[0]?).map (·.type) = some 22 := by kernel_rfl
def laidL : List (String × DataW Unit) := [("socage/conf.slots", Rows.laid_socage_conf_slots)]
theorem door_met (os : Os) (args : Array Value) : laidMetH Tryd.prog laidL ((World.doorLaid Tryd.prog 400 os).forCall (fun _ _ => 0) ⟨#[], args, []⟩).memory :=
  laidMetH_of_parts3 (fuel := 8) (laidMet_of_run' 8 (by kernel_rfl) (by kernel_rfl)) (by kernel_rfl) (by kernel_rfl)
theorem of_laid {W : World} (h : laidMetH Tryd.prog laidL W) : Lay W := by
  rw [MakeChecks.laidMetH_plain _ _ _ (by kernel_rfl)] at h
  obtain ⟨ps, ⟨g0, t0, cs0, f0, p0, q0, hg0, ht0, hv0, hd0, _, _⟩, _, _⟩ := h
  obtain rfl := Option.some.inj (gSlots.symm.trans hg0)
  obtain rfl := Option.some.inj (tSlots.symm.trans ht0)
  have hv := fun j => World.var?_cell hg0 hv0 j
  obtain ⟨xs, m, _, hx, hl, hn, hel⟩ := DataW.trod_array Tryd.underlying22 hd0
  rw [Tryd.cArr3] at hl
  obtain ⟨l0⟩ := cs0
  match l0, hl, xs, hn with
  | [c0, c1, c2], _, [x0, x1, x2], _ =>
    simp only [Prod.mk.injEq, DataW.agg.injEq, Rows.laid_socage_conf_slots, List.map_cons, List.map_nil, List.cons.injEq, and_true] at hx
    have e0 := hel 0 (by omega)
    have e1 := hel 1 (by omega)
    have e2 := hel 2 (by omega)
    rw [Tryd.cInt] at e0 e1 e2
    obtain ⟨k0, a0, b0, _⟩ := DataW.trod_int Tryd.underlying3 (show DataW.trod _ Tryd.prog W 0 _ _ m 3 _ = some x0 from e0)
    obtain ⟨k1, a1, b1, _⟩ := DataW.trod_int Tryd.underlying3 (show DataW.trod _ Tryd.prog W 0 _ _ m 3 _ = some x1 from e1)
    obtain ⟨k2, a2, b2, _⟩ := DataW.trod_int Tryd.underlying3 (show DataW.trod _ Tryd.prog W 0 _ _ m 3 _ = some x2 from e2)
    subst b0 b1 b2
    simp at a0 a1 a2 hx
    obtain ⟨⟨rfl, rfl, rfl⟩, _⟩ := hx
    subst a0 a1 a2
    exact ⟨by simpa using hv 0, by simpa using hv 1, by simpa using hv 2⟩

end Go.Proofs.YtkboimheeieeeaaDoor
