/- Add, Drop, All. -/
import Derived.Test.YtkcmngekiknikaaRootB
import Derived.Test.YtkcmngekiknikaaIter
namespace Go.Proofs.Ytkcmngekiknikaa
namespace Rt
open Go.RowKit Go.Maps

section
variable {w : World} {s m : Nat} {l : List Int}
theorem addS_ok {x : Int} (ho : okB x = true) : addS l x = addL x l := by simp [addS, ho]
theorem addS_no {x : Int} (ho : okB x = false) : addS l x = l := by simp [addS, ho]
theorem dropS_has {x : Int} (ho : okB x = true) : dropS l x = dropL x l := by simp [dropS, ho]
theorem dropS_no {x : Int} (ho : okB x = false) : dropS l x = l := by simp [dropS, ho]
theorem dropS_not {x : Int} (hh : hasB l x = false) : dropS l x = l := by
  have : x ∉ l := fun h => by rw [hasB_iff.2 h] at hh; cases hh
  unfold dropS
  rw [dropL_not this]
  split <;> rfl

set_option maxRecDepth 100000 in
set_option maxHeartbeats 800000 in
theorem add_any (x : Int) (hx : i64ok x) (hi : Inc l) (h : RtIn w s m l) :
    Calls Try.prog 9 #[.pointer (some ⟨s, 0, none⟩), .int .i64 x] w fun e w' => e = .returned (.tuple #[.bool (addA l x), .int .i64 (addE x)]) ∧ RtIn w' s m (addS l x) ∧ Only [m] w w' := by
  have c0 := h.cell
  have hlk := h.look hx
  have hkey := keyOf_int_mk Try.underlying3 (i64_wf hx)
  have hlen := hi.len
  cases ho : okB x
  · go_enter Try.func9, Try.ntmps9
    go_wp2_with (go_at_call 16; refine (right_any _ _).mono ?_; rw [ho]; rintro e w1 ⟨rfl, rfl⟩)
    go_ret2
    exact ⟨by simp [addA, addE, ho], by rw [addS_no ho]; exact h, Only.refl _ _⟩
  · go_enter Try.func9, Try.ntmps9
    go_wp2_with (first
      | (go_at_call 16; refine (right_any _ _).mono ?_; rw [ho]; rintro e w1 ⟨rfl, rfl⟩)
      | (at_mapUpdate; refine wpList_mapUpdate_in _ rfl _ _ _ 44 rfl 3 4 Try.lawInt Try.underlying44 _ m l.length (mp l) rfl h.own (by unfold maxLen; omega) _ _ _ rfl rfl hkey _ [] (plainElem_bool Try.underlying4 true) ?_; intro w1 hown1 hturn1))
    go_ret2
    exact ⟨by simp [addA, addE, ho], by rw [addS_ok ho]; exact h.put hi hown1 hturn1, Only.of_grown hturn1.grown (by simp)⟩

set_option maxRecDepth 100000 in
set_option maxHeartbeats 800000 in
theorem drop_any (x : Int) (hx : i64ok x) (h : RtIn w s m l) :
    Calls Try.prog 7 #[.pointer (some ⟨s, 0, none⟩), .int .i64 x] w fun e w' => e = .returned (.int .i64 (dropE l x)) ∧ RtIn w' s m (dropS l x) ∧ Only [m] w w' := by
  have c0 := h.cell
  have hlk := h.look hx
  have hkey := keyOf_int_mk Try.underlying3 (i64_wf hx)
  cases ho : okB x
  · go_enter Try.func7, Try.ntmps7
    go_wp2_with (go_at_call 16; refine (right_any _ _).mono ?_; rw [ho]; rintro e w1 ⟨rfl, rfl⟩)
    go_ret
    exact ⟨by simp [dropE, ho], by rw [dropS_no ho]; exact h, Only.refl _ _⟩
  cases hh : hasB l x
  · rw [hh] at hlk
    go_enter Try.func7, Try.ntmps7
    go_wp2_with (go_at_call 16; refine (right_any _ _).mono ?_; rw [ho]; rintro e w1 ⟨rfl, rfl⟩)
    go_ret
    exact ⟨by simp [dropE, ho, hh], by rw [dropS_not hh]; exact h, Only.refl _ _⟩
  · rw [hh] at hlk
    go_enter Try.func7, Try.ntmps7
    go_wp2_with (first
      | (go_at_call 16; refine (right_any _ _).mono ?_; rw [ho]; rintro e w1 ⟨rfl, rfl⟩)
      | (at_delete; refine wpList_delete_own _ rfl _ _ 44 3 rfl 4 Try.lawInt Try.underlying44 _ m l.length (mp l) rfl h.own _ _ rfl hkey ?_; intro w1 hown1 hturn1))
    go_ret
    exact ⟨by simp [dropE, ho, hh], by rw [dropS_has ho]; exact h.del hown1 hturn1, Only.of_grown hturn1.grown (by simp)⟩

set_option maxRecDepth 100000 in
set_option maxHeartbeats 800000 in
theorem all_any (hi : Inc l) (h : RtIn w s m l) :
    Calls Try.prog 12 #[.pointer (some ⟨s, 0, none⟩)] w fun e w' => ∃ u, e = .returned u ∧ Own w' u l ∧ Below w.heap.size w w' := by
  have c0 := h.cell
  have hlen := hi.len
  have hs := size_mp l
  have cK : Calls Try.prog 18 #[.map (some m)] w _ := callsIn_wide.1 (Try.maps_Keys (some m) w)
  have cS := callsIn_wide.1 (Try.slices_Sorted_keys m l.length (mp l) _ w h.own (by rw [hs]; unfold maxLen; omega) (by rw [hs]; omega))
  go_enter Try.func12, Try.ntmps12
  go_wp2_with (first
    | (go_at_call 18; refine cK.mono ?_; rintro e w1 ⟨rfl, rfl⟩)
    | (go_at_call 17; refine cS.mono ?_; rintro e w2 ⟨u, ss, rfl, hp, hrow, _, hb⟩))
  go_ret
  have hl := hp.length_eq
  rw [keys_mp] at hl
  rw [sort_mp hi hp, hl] at hrow
  exact ⟨u, rfl, (Own.of hrow).1, ((Below.refl _ w).alloc (Nat.le_refl _) _).trans (hb.mono (by simp))⟩
end
end Rt
end Go.Proofs.Ytkcmngekiknikaa
