/- Where cells stand: plain facts for ConfApart. -/
import Derived.Test.YtalfkhnadflhnaaDoorConfJ
namespace Go.Proofs.YtalfkhnadflhnaaDoor
open Go.RowKit

def posZ (a b p : Int) : Int := if p < a then 2 * p else if p < a + b then 2 * a + 3 * (p - a) else 2 * a + 3 * b + 5 * (p - a - b)
structure Good (x : Sh) (N W : Int) : Prop where
  may : x.may = true
  n : countZ x.a x.b x.c x.q x.s = N
  w : wordsZ x.a x.b x.c x.q x.s = W
  bd : 0 ≤ N ∧ N ≤ 192 ∧ 0 ≤ W ∧ W ≤ 640
  z : N = 0 ↔ W = 0
  p0 : posZ x.a x.b 0 = 0
  pN : posZ x.a x.b N = W
  mono : ∀ p r, 0 ≤ p → p ≤ r → r ≤ N → posZ x.a x.b p ≤ posZ x.a x.b r
  at_ : ∀ p, 0 ≤ p → p < N → atZ x.a x.b x.c x.q x.s p = posZ x.a x.b p
  sz : ∀ p, 0 ≤ p → p < N → sizeZ (classZ x.a x.b x.c x.q x.s p) = posZ x.a x.b (p + 1) - posZ x.a x.b p ∧ 2 ≤ sizeZ (classZ x.a x.b x.c x.q x.s p)
  cls : ∀ p, classZ x.a x.b x.c x.q x.s p ≤ 9223372036854775807
theorem good_of (x : Sh) (h : x.may = true) : Good x (x.a + x.b + x.c) (2 * x.a + 3 * x.b + 5 * x.c) := by
  have hm : mayB x.a x.b x.c x.q x.s = true := h
  obtain ⟨⟨a0, a1⟩, ⟨b0, b1⟩, ⟨c0, c1⟩, _, _⟩ := mayB_iff.1 hm
  refine ⟨h, by simp [countZ, hm], by simp [wordsZ, hm], by omega, by omega, ?_, ?_, ?_, ?_, ?_, ?_⟩
  · unfold posZ; split
    · omega
    split <;> omega
  · unfold posZ; split
    · omega
    split <;> omega
  · intro p r h0 h1 h2
    unfold posZ
    repeat' split
    all_goals omega
  · intro p h0 h1
    unfold atZ posZ
    rw [if_pos ⟨hm, h0⟩]
    repeat' split
    all_goals omega
  · intro p h0 h1
    unfold classZ posZ
    rw [if_pos ⟨hm, h0⟩]
    by_cases e1 : p < x.a
    · rw [if_pos e1, if_pos e1, size0]
      repeat' split
      all_goals omega
    rw [if_neg e1, if_neg e1, if_neg (by omega : ¬ p + 1 < x.a)]
    by_cases e2 : p < x.a + x.b
    · rw [if_pos e2, if_pos e2, size1]
      repeat' split
      all_goals omega
    rw [if_neg e2, if_neg e2, if_neg (by omega : ¬ p + 1 < x.a + x.b), if_pos (by omega : p < x.a + x.b + x.c), size2]
    omega
  · intro p
    unfold classZ
    repeat' split
    all_goals omega
theorem base_next {L : List Sh} (hr : rightB L = true) (k : Nat) (x : Sh) (hx : L[k]? = some x) :
    baseZ L (k + 1) = sumW (L.take k) ∧ (k + 1 < L.length → baseZ L (k + 1 + 1) = sumW (L.take k) + x.words) ∧ x.may = true := by
  obtain ⟨hk, hxx⟩ := List.getElem?_eq_some_iff.1 hx
  refine ⟨?_, fun h => ?_, ?_⟩
  · unfold baseZ
    rw [if_pos ⟨hr, by omega, by omega⟩]
    congr 2; omega
  · rw [← sumW_take L k x hx]
    unfold baseZ
    rw [if_pos ⟨hr, by omega, by omega⟩]
    congr 2; omega
  · simp only [rightB, Bool.and_eq_true, List.all_eq_true] at hr
    exact hr.2 x (List.mem_of_getElem? hx)
def fnd (word p : Int) : Int := if word < p then 1 else 0
theorem fnd_0 {word p : Int} (h : p ≤ word) : fnd word p = 0 := by unfold fnd; rw [if_neg (by omega)]
theorem fnd_1 {word p : Int} (h : word < p) : fnd word p = 1 := by unfold fnd; rw [if_pos h]
end Go.Proofs.YtalfkhnadflhnaaDoor
