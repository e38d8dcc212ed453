/- The document's Take. -/
import Derived.Test.YtplneoapcadlnaaDoorFreeI
import Derived.BigRegion
import Derived.Deep.RegionLaw
namespace Go.Proofs.YtplneoapcadlnaaDoor
open Go.RowKit
attribute [local go_sem ↓] Go.wp_at_zero Go.wp_at_succ

section
variable {w : World} {hb gb ib : Nat} {u : Value} {x : Sh} {gs is pl : List Int}
set_option maxHeartbeats 400000 in
theorem rtake_arg (k : Int) (b : Nat) (w : World) (hk : inN k 3 = false) :
    Calls Tryd.prog 76 #[.pointer (some ⟨b, 0, none⟩), .int .i64 k] w fun e w' => e = .returned (.tuple #[.int .i64 0, .int .i64 1]) ∧ w = w' := by
  have ho := inN_out hk
  clear hk
  by_cases hk : 0 ≤ k
  · have hlt : 2 < k := by omega
    clear ho
    go_enter Tryd.func76, Tryd.ntmps76
    go_wp2
    go_ret2
    exact ⟨rfl, rfl⟩
  · have hk' : k < 0 := by omega
    clear ho hk
    go_enter Tryd.func76, Tryd.ntmps76
    go_wp2
    go_ret2
    exact ⟨rfl, rfl⟩
set_option maxRecDepth 100000 in
set_option maxHeartbeats 800000 in
theorem rtake_full (k : Nat) (hk : k < 3) (h : RfIn w hb gb ib u x gs is pl) (hpl : pl.length ≤ 1000) (hno : ∀ y ∈ pl, (rclassZ x.a x.b x.c x.q x.s y == k) = false) :
    Calls Tryd.prog 76 #[.pointer (some ⟨hb, 0, none⟩), .int .i64 k] w fun e w' => e = .returned (.tuple #[.int .i64 0, .int .i64 8]) ∧ Below w.heap.size w w' := by
  have b1 : (0 : Int) ≤ (k : Int) := by omega
  have b2 : (k : Int) ≤ 2 := by omega
  obtain ⟨A, cap, hv, hl3, hl4, hl5, hat⟩ := h.pile.form
  obtain ⟨_, _, _, _, _, c5, c6, c7⟩ := h.cells
  rw [hv] at c7
  have HV := Lib.hid hv
  have HAT := Lib.hid hat
  have HNO := Lib.hid hno
  have HH := Lib.hid h
  clear hat hv hno h c5 c6
  go_enter Tryd.func76, Tryd.ntmps76
  go_wp2_with fail
  go_loopw [6] (fun i wr => ∃ j : Nat, j ≤ pl.length ∧ i = .int .i64 ((j : Int) - 1) ∧ Below w.heap.size w wr) (fun i _ => (intOf i + 1).toNat)
  case atStart => exact ⟨pl.length, Nat.le_refl _, rfl, Below.refl _ _⟩
  case round =>
    obtain ⟨j, hj, rfl, hbr⟩ := hrel
    match j, hj with
    | 0, hj =>
      have e : ((0 : Nat) : Int) - 1 = -1 := rfl
      rw [e]
      go_wp2_with fail
      go_ret2
      exact ⟨rfl, hbr⟩
    | q + 1, hj =>
      have e : ((q + 1 : Nat) : Int) - 1 = q := by omega
      rw [e]
      have hql : q < pl.length := hj
      obtain ⟨y, hy⟩ : ∃ y, pl[q]? = some y := ⟨_, List.getElem?_eq_getElem hql⟩
      have hr := HH.out.more hbr
      obtain ⟨g, rfl, _⟩ := HAT.out q y hy
      obtain ⟨d0, d1, d2, d3, d4, d5, d6, d7⟩ := hr.cells
      rw [HV.out] at d7
      have hny := HNO.out y (List.mem_of_getElem? hy)
      have cy := (World.ownsRow.cellAt (show wr.ownsRow 0 3 1 (.slice (some ⟨g, 0, none⟩) pl.length cap) pl.length (vals pl) by have := hr.pile; rw [HV.out] at this; exact this) q (by omega)).trans (vals_of _ _ _ hy)
      clear hy hr d5 d6 e
      go_wp2_with (go_at_call 41; refine (rclass_any _ _ _ _ _ _ _).mono ?_; rintro e w1 ⟨rfl, hb1⟩)
      go_roundw
      case rel => exact ⟨q, by omega, rfl, below_more hbr hb1⟩
      case measure => simp [intOf]
end
end Go.Proofs.YtplneoapcadlnaaDoor
