/- The program's rests: a map of gray ones; the closure that tells of each its rest. -/
import Derived.Test.YtmnjbinmfbjbaaaTriB
namespace Go.Proofs.Ytmnjbinmfbjbaaa
namespace Tr
open Go.RowKit Go.Maps Gr

theorem Try.zeroIntT (w : World) : (zeroValue 3).run Try.prog w = .ok (.int .i64 0) w := by kernel_rfl
theorem tight {H : Type} {P : Program} {k : TypeId} {R : Value → Option (DataW H × List MemPlace)} {w : World} {b n : Nat} {D : DataW H} (h : w.ownsMap P k R b n D) : w.ownsMap P k R b (Maps.size D) D := by
  obtain ⟨es, clock, hb, F, _, rfl⟩ := h
  exact ⟨es, clock, hb, F, by simp [Maps.size, length_sorted], rfl⟩
/-- Block t is a map that has just the gray ones, and tells of each what f says, within 64 bits. -/
structure Rm (wr : World) (t : Nat) (gray : List Int) (f : Int → Int) (D : DataW Unit) : Prop where
  own : wr.ownsMap Try.prog 3 (plainElem Try.prog 3) t (Maps.size D) D
  size : Maps.size D ≤ gray.length
  has : ∀ z, Maps.has D (Rt.ky z) = Rt.hasB gray z
  val : ∀ z, Rt.hasB gray z = true → D.atKey (Rt.ky z) (.lit (.int .i64 0)) = .lit (.int .i64 (wrap64 (f z)))
section
variable {wr wr' : World} {t : Nat} {gray : List Int} {f f' : Int → Int} {D : DataW Unit}
theorem Rm.only {T : List Nat} (h : Rm wr t gray f D) (ho : Only T wr wr') (hm : t ∉ T) : Rm wr' t gray f D := ⟨map_only h.own ho hm, h.size, h.has, h.val⟩
theorem Rm.below (h : Rm wr t gray f D) (hb : Below wr.heap.size wr wr') : Rm wr' t gray f D := h.only (Only.of_below (S := []) hb) (by simp)
theorem Rm.same (h : Rm wr t gray f D) (hf : ∀ z, Rt.hasB gray z = true → f z = f' z) : Rm wr t gray f' D := ⟨h.own, h.size, h.has, fun z hz => by rw [h.val z hz, hf z hz]⟩
theorem Rm.look (h : Rm wr t gray f D) {x : Int} (hx : i64ok x) (hg : Rt.hasB gray x = true) : (Instr.lookup 53 (.map (some t)) (.int .i64 x) false).run Try.prog wr = .ok (.int .i64 (wrap64 (f x))) wr := by
  obtain ⟨c, hrun, hv, _⟩ := h.own.lookup_int Try.lawIntG Try.underlying53 Try.underlying3 (Try.zeroIntT wr) (keyOf_int_mk Try.underlying3 (Rt.i64_wf hx))
  rw [show (Lit.int .i64 x) = Rt.ky x from rfl, h.val x hg] at hv
  simp only [DataW.lit.injEq, Lit.int.injEq, true_and] at hv
  rw [hrun, ← hv]
theorem Rm.look_ok (h : Rm wr t gray f D) {x : Int} (hx : i64ok x) : ∃ v, (Instr.lookup 53 (.map (some t)) (.int .i64 x) true).run Try.prog wr = .ok (.tuple #[v, .bool (Rt.hasB gray x)]) wr := by
  obtain ⟨v, ps, hrun, hv⟩ := h.own.look_ok Try.lawIntG Try.underlying53 (Try.zeroIntT wr) (plainElem_int Try.underlying3 (Rt.i64_wf (x := 0) (by unfold i64ok; omega))) (keyOf_int_mk Try.underlying3 (Rt.i64_wf hx))
  rw [show (Lit.int .i64 x) = Rt.ky x from rfl, h.has] at hrun
  exact ⟨v, hrun⟩
theorem Rm.put (h : Rm wr t gray f D) {x v : Int} (hg : Rt.hasB gray x = true) (hv : v = wrap64 (f' x)) (hf : ∀ z, x ≠ z → Rt.hasB gray z = true → f z = f' z)
    (hown : wr'.ownsMap Try.prog 3 (plainElem Try.prog 3) t (Maps.size D + 1) (D.put (Rt.ky x) (.lit (.int .i64 v)))) : Rm wr' t gray f' (D.put (Rt.ky x) (.lit (.int .i64 v))) := by
  have hI := map_isMap h.own
  refine ⟨tight hown, ?_, fun z => ?_, fun z hz => ?_⟩
  · rw [size_put (h.own.tidy Try.lawIntG), h.has, hg]
    exact h.size
  · by_cases e : x = z
    · subst e
      rw [has_put_same hI (ky_key _), hg]
    · rw [has_put_other (ky_ne (fun e' => e e'.symm)), h.has]
  · by_cases e : x = z
    · subst e
      rw [atKey_put_same hI (ky_key _), hv]
    · rw [atKey_put_other (ky_ne (fun e' => e e'.symm)), h.val z hz, hf z e hz]
theorem Rm.push (h : Rm wr t gray f D) {x : Int} (hf : ∀ z, f z = 0)
    (hown : wr'.ownsMap Try.prog 3 (plainElem Try.prog 3) t (Maps.size D + 1) (D.put (Rt.ky x) (.lit (.int .i64 0)))) : Rm wr' t (gray ++ [x]) f (D.put (Rt.ky x) (.lit (.int .i64 0))) := by
  have hI := map_isMap h.own
  have hap : ∀ z, Rt.hasB (gray ++ [x]) z = (Rt.hasB gray z || x == z) := fun z => by unfold Rt.hasB; simp [List.any_append]
  refine ⟨tight hown, ?_, fun z => ?_, fun z hz => ?_⟩
  · rw [size_put (h.own.tidy Try.lawIntG), List.length_append]
    have := h.size
    split <;> simp <;> omega
  · rw [hap]
    by_cases e : x = z
    · subst e
      rw [has_put_same hI (ky_key _)]
      simp
    · rw [has_put_other (ky_ne (fun e' => e e'.symm)), h.has]
      simp [e]
  · by_cases e : x = z
    · subst e
      have h0 : wrap64 0 = 0 := by unfold wrap64; omega
      rw [atKey_put_same hI (ky_key _), hf, h0]
    · rw [atKey_put_other (ky_ne (fun e' => e e'.symm)), h.val z (by rw [hap] at hz; simpa [e] using hz)]
end

set_option maxRecDepth 100000 in
set_option maxHeartbeats 400000 in
/-- The closure. -/
theorem trest_any {w : World} {t cb : Nat} {gray : List Int} {f : Int → Int} {D : DataW Unit} (hM : Rm w t gray f D) (hB : w.cell? ⟨cb, 0, none⟩ = some (.map (some t))) {x : Int} (hx : i64ok x) (hg : Rt.hasB gray x = true) :
    Calls Try.prog 32 #[.int .i64 x, .pointer (some ⟨cb, 0, none⟩)] w fun e w' => e = .returned (.int .i64 (wrap64 (f x))) ∧ w = w' := by
  have hlk := hM.look hx hg
  generalize wrap64 (f x) = v at *
  clear hM
  go_enter Try.func32, Try.ntmps32
  go_wp2_with fail
  go_ret
  exact ⟨rfl, rfl⟩
end Tr
end Go.Proofs.Ytmnjbinmfbjbaaa
