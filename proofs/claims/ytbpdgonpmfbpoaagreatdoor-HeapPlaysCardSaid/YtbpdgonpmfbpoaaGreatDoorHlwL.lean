/- A region that draws its order, walked along a plan that is checked once. Generic. -/
import Derived.Test.YtbpdgonpmfbpoaaGreatDoorLayLaw
import Derived.OrdersHeld
import Derived.Deep.RegionHeld3
namespace Go.Proofs.YtbpdgonpmfbpoaaGreatDoor
namespace Hp
open Go.RowKit

section
variable {P : Program} {ops : Array Oper} {Q : Exit → Act → World → Prop} {S : World → Prop}
def hrdy (ops : Array Oper) (done : List Nat) (i : Nat) : Bool := !done.contains i && ((ops[i]?).map (fun o => o.after.all fun e => !Region.binds .any e || done.contains e.on)).getD false
def hready (ops : Array Oper) (done : List Nat) : List Nat := (List.range ops.size).filter (hrdy ops done)
def hapart (ops : Array Oper) (done : List Nat) (i : Nat) : Bool := match ops[i]? with
  | none => false
  | some oi => (List.range ops.size).all fun j => j == i || (done.contains j || match ops[j]? with
    | some oj => oj.after.any (fun e => Region.binds .any e && e.on == i) || oi.apart ops oj
    | none => true)
def hplan (ops : Array Oper) : List (Nat × Bool) → List Nat → Bool
  | [], done => (hready ops done).isEmpty
  | (i, true) :: r, done => hapart ops done i && (hrdy ops done i && hplan ops r (i :: done))
  | (i, false) :: r, done => (hready ops done == [i]) && hplan ops r (i :: done)
def hchain (P : Program) (ops : Array Oper) (Q : Exit → Act → World → Prop) (S : World → Prop) : List (Nat × Bool) → Act → World → Prop
  | [], a, w => Q .normal a w
  | (i, true) :: r, a, w => match ops[i]? with
    | some oi => ∃ v, YieldsIf P ops S oi v a ∧ hchain P ops Q S r (a.put oi.dst v) w
    | none => False
  | (i, false) :: r, a, w => match ops[i]? with
    | some oi => ∀ K' : Act → World → Prop, Shut (∀ a' w', S w' → (S w' → hchain P ops Q S r a' w') → K' a' w') → if Region.wanted oi (yielded ops a.tmps) = true then Oper.wp P oi a w K' Q else K' (a.put oi.dst undef) w
    | none => False
structure HInv (ops : Array Oper) (listed : Array Bool) (done : List Nat) : Prop where
  size : listed.size = ops.size
  lt : ∀ j ∈ done, j < ops.size
  get : ∀ j, j < ops.size → listed[j]? = some (done.contains j)
theorem HInv.start : HInv ops (Array.replicate ops.size false) [] := ⟨by simp, by simp, fun j hj => by simp [hj]⟩
theorem HInv.getD {listed : Array Bool} {done : List Nat} (h : HInv ops listed done) {j : Nat} (hj : j < ops.size) (b : Bool) : listed.getD j b = done.contains j := by
  have := h.get j hj
  rw [Array.getD_eq_getD_getElem?, this]
  rfl
theorem HInv.getF {listed : Array Bool} {done : List Nat} (h : HInv ops listed done) (j : Nat) : listed.getD j false = done.contains j := by
  by_cases hj : j < ops.size
  · exact h.getD hj false
  · have h1 : listed[j]? = none := Array.getElem?_eq_none (by rw [h.size]; omega)
    rw [Array.getD_eq_getD_getElem?, h1]
    cases hc : done.contains j
    · rfl
    · exact absurd (h.lt j (by simpa using hc)) hj
theorem HInv.set {listed : Array Bool} {done : List Nat} (h : HInv ops listed done) {i : Nat} (hi : i < ops.size) : HInv ops (listed.setIfInBounds i true) (i :: done) := by
  refine ⟨by simp [h.size], fun j hj => ?_, fun j hj => ?_⟩
  · rcases List.mem_cons.1 hj with rfl | hj
    · exact hi
    · exact h.lt j hj
  · rw [Array.getElem?_setIfInBounds]
    by_cases e : i = j
    · subst e
      rw [if_pos rfl, if_pos (by rw [h.size]; exact hi)]
      simp
    · rw [if_neg e, h.get j hj]
      simp only [List.contains_cons, show (j == i) = false by simp; omega, Bool.false_or]
theorem hready_eq {listed : Array Bool} {done : List Nat} (h : HInv ops listed done) : Region.ready .any ops listed = hready ops done := by
  unfold Region.ready hready
  refine List.filter_congr fun i hi => ?_
  have hi' : i < ops.size := by simpa using hi
  unfold hrdy
  rw [h.getD hi' true]
  simp only [h.getF]
theorem hrdy_mem {done : List Nat} {i : Nat} (h : hrdy ops done i = true) : i < ops.size ∧ i ∈ hready ops done := by
  have hi : i < ops.size := by
    unfold hrdy at h
    cases ho : ops[i]? with
    | none => rw [ho] at h; simp at h
    | some o => exact (Array.getElem?_eq_some_iff.1 ho).1
  exact ⟨hi, List.mem_filter.2 ⟨by simpa using hi, h⟩⟩
theorem hfree_of {listed : Array Bool} {done : List Nat} {i : Nat} (hi : HInv ops listed done) (h : hapart ops done i = true) : Region.free .any ops listed i = true := by
  unfold hapart at h
  unfold Region.free
  split
  · rename_i e; rw [e] at h; cases h
  · rename_i oi e
    rw [e] at h
    simp only [List.all_eq_true] at h ⊢
    intro j hj
    have hlt : j < ops.size := by simpa using hj
    have := h j hj
    rw [hi.getD hlt true]
    simp only [Bool.or_eq_true] at this ⊢
    rcases this with e1 | e1 | e1
    · exact Or.inl (Or.inl e1)
    · exact Or.inl (Or.inr e1)
    · exact Or.inr e1
theorem chain_spec (hsel : Region.noSelect ops = true) (hQ : ∀ c a d v w, Q (.panic c) (a.put d v) w → Q (.panic c) a w) : ∀ (plan : List (Nat × Bool)) (done : List Nat) (listed : Array Bool) (fuel : Nat) (a : Act) (w : World), hplan ops plan done = true → HInv ops listed done → plan.length ≤ fuel → S w → hchain P ops Q S plan a w → wpAnyH P .any ops Q S fuel listed a w
  | [], done, listed, fuel, a, w, hp, hi, _, _, hc => wpAnyH_done (by rw [hready_eq hi]; simpa [hplan] using hp) hc fuel
  | (i, true) :: r, done, listed, 0, a, w, _, _, hf, _, _ => by simp at hf
  | (i, true) :: r, done, listed, fuel + 1, a, w, hp, hi, hf, hS, hc => by
    unfold hplan at hp
    simp only [Bool.and_eq_true] at hp
    obtain ⟨h1, h2, h3⟩ := hp
    obtain ⟨hlt, hm⟩ := hrdy_mem h2
    unfold hchain at hc
    split at hc
    · rename_i oi hoi
      obtain ⟨v, hy, hc'⟩ := hc
      exact wpAnyH_take hoi hsel (hfree_of hi h1) (by rw [hready_eq hi]; simpa using hm) (fun c a w => hQ c a oi.dst v w) hy hS (chain_spec hsel hQ r (i :: done) _ fuel _ w h3 (hi.set hlt) (by simpa using hf) hS hc')
    · exact hc.elim
  | (i, false) :: r, done, listed, 0, a, w, _, _, hf, _, _ => by simp at hf
  | (i, false) :: r, done, listed, fuel + 1, a, w, hp, hi, hf, hS, hc => by
    unfold hplan at hp
    simp only [Bool.and_eq_true, beq_iff_eq] at hp
    obtain ⟨h1, h3⟩ := hp
    have hm : i ∈ hready ops done := by rw [h1]; simp
    have hlt : i < ops.size := by simpa using (List.mem_filter.1 hm).1
    unfold hchain at hc
    split at hc
    · rename_i oi hoi
      refine wpAnyH_ready (rs := [i]) (by rw [hready_eq hi, h1]) (by simp) (AllReadyH.cons hoi (fun K' hK => ?_) AllReadyH.nil)
      exact hc K' (fun a' w' hS' hch => hK.out a' w' hS' (fun hS'' => chain_spec hsel hQ r (i :: done) _ fuel a' w' h3 (hi.set hlt) (by simpa using hf) hS'' (hch hS'')))
    · exact hc.elim
end
end Hp
end Go.Proofs.YtbpdgonpmfbpoaaGreatDoor
