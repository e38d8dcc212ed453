/- The program's Counts. -/
import Derived.Test.YtmnjbinmfbjbaaaGraJ
namespace Go.Proofs.Ytmnjbinmfbjbaaa
namespace Gr
open Go.RowKit Go.Maps

theorem Try.zeroIntG (w : World) : (zeroValue 3).run Try.prog w = .ok (.int .i64 0) w := by kernel_rfl
/-- Block t is a map that tells how often each stands in m. -/
structure Tm (wr : World) (t n : Nat) (m : List Int) (D : DataW Unit) : Prop where
  own : wr.ownsMap Try.prog 3 (plainElem Try.prog 3) t n D
  cnt : ∀ z, D.atKey (Rt.ky z) (.lit (.int .i64 0)) = .lit (.int .i64 (m.count z : Int))
section
variable {wr wr' : World} {t n : Nat} {m : List Int} {D : DataW Unit}
theorem Tm.only {T : List Nat} (h : Tm wr t n m D) (ho : Only T wr wr') (hm : t ∉ T) : Tm wr' t n m D := ⟨map_only h.own ho hm, h.cnt⟩
theorem Tm.below (h : Tm wr t n m D) (hb : Below wr.heap.size wr wr') : Tm wr' t n m D := h.only (Only.of_below (S := []) hb) (by simp)
theorem Tm.look (h : Tm wr t n m D) {x : Int} (hx : i64ok x) : (Instr.lookup 53 (.map (some t)) (.int .i64 x) false).run Try.prog wr = .ok (.int .i64 (m.count x : Int)) wr := by
  obtain ⟨c, hrun, hv, _⟩ := h.own.lookup_int Try.lawIntG Try.underlying53 Try.underlying3 (Try.zeroIntG wr) (keyOf_int_mk Try.underlying3 (Rt.i64_wf hx))
  rw [show (Lit.int .i64 x) = Rt.ky x from rfl, h.cnt] at hv
  simp only [DataW.lit.injEq, Lit.int.injEq, true_and] at hv
  rw [hrun, ← hv]
theorem Tm.put (h : Tm wr t n m D) (x : Int) {v : Int} (hv : v = (m.count x : Int) + 1) (hown : wr'.ownsMap Try.prog 3 (plainElem Try.prog 3) t (n + 1) (D.put (Rt.ky x) (.lit (.int .i64 v)))) :
    Tm wr' t (n + 1) (m ++ [x]) (D.put (Rt.ky x) (.lit (.int .i64 v))) := by
  have hI := map_isMap h.own
  refine ⟨hown, fun z => ?_⟩
  by_cases e : x = z
  · subst e
    rw [atKey_put_same hI (ky_key _), hv, List.count_append]
    simp
  · rw [atKey_put_other (ky_ne (fun e' => e e'.symm)), h.cnt, List.count_append]
    have : [x].count z = 0 := List.count_eq_zero.2 (by simp; exact fun h => e h.symm)
    rw [this]
    rfl
end
theorem cells_set {C I : List Int} {j : Nat} {c : Int} (hl : C.length = I.length) (h : C[j]? = some c) : (C.take j ++ I.drop j).set j c = C.take (j + 1) ++ I.drop (j + 1) := by
  obtain ⟨hj, rfl⟩ := List.getElem?_eq_some_iff.1 h
  have e : I.drop j = I[j]'(by omega) :: I.drop (j + 1) := List.drop_eq_getElem_cons (by omega)
  have h0 : j - (C.take j).length = 0 := by simp; omega
  rw [List.set_append_right _ _ (by simp; omega), h0, e, List.set_cons_zero, List.take_succ_eq_append_getElem hj, List.append_assoc]
  rfl
theorem count_wf (c : Nat) (h : c ≤ 200000) : (Lit.int .i64 ((c : Int) + 1)).wf = true := Rt.i64_wf (by unfold i64ok; omega)

end Gr
end Go.Proofs.Ytmnjbinmfbjbaaa
