/- CellsFresh, plain: what an act leaves of another cell; what is allocated is empty. -/
import Derived.Test.YtplneoapcadlnaaDoorCellV
namespace Go.Proofs.YtplneoapcadlnaaDoor
open Go.RowKit

/-- What is read of a cell. -/
structure Vw where
  g : Int
  c : Int
  t : Bool
  y : Vl
  e : Int
def vw (x : Sh) (cs : List St) (ct : List Int) (vs : List (List Vl)) (o : Nat) : Vw := ⟨genZ cs o, ctZ ct o, takenZ cs o, gtV x cs vs o 0, plE x cs o 0⟩
section
variable {x : Sh} {cs cs' : List St} {ct ct' : List Int} {vs vs' : List (List Vl)} {p : Nat → List Int} {o : Nat}
theorem vw_off (h1 : cs'.length = cs.length) (h2 : ct'.length = ct.length) (h3 : cs'[o]? = cs[o]?) (h4 : ct'[o]? = ct[o]?) (h5 : vs'[o]? = vs[o]?) : vw x cs' ct' vs' o = vw x cs ct vs o := by
  have e1 : genZ cs' o = genZ cs o := by simp only [genZ, h1, Int.toNat_natCast, h3]
  have e2 : ctZ ct' o = ctZ ct o := by simp only [ctZ, h2, Int.toNat_natCast, h4]
  have e3 : takenZ cs' o = takenZ cs o := by simp only [takenZ, h1, Int.toNat_natCast, h3]
  have e4 : plE x cs' o 0 = plE x cs o 0 := by simp only [plE, e3]
  have e5 : gtV x cs' vs' o 0 = gtV x cs vs o 0 := by simp only [gtV, e4, vlAt, Int.toNat_natCast, h5]
  unfold vw
  rw [e1, e2, e3, e4, e5]
theorem vw_take (hI : Inv x cs p) (n : Int) (h : tkE p n = 0 → tkV p n ≠ o) : vw x (tkC cs p n) ct vs o = vw x cs ct vs o := by
  rcases take_cases p n with hn | ⟨k, rfl, hk, hp | ⟨M, i, hp⟩⟩
  · rw [(tk_arg (cs := cs) (p := p) hn).2.2.1]
  · rw [(tk_full (cs := cs) hk hp).2.2.1]
  · obtain ⟨i', z, rfl, hz, _⟩ := hI.mem k hk i (by rw [hp]; simp)
    obtain ⟨e1, e2, e3, _⟩ := tk_top hk hp hz
    have hne : i' ≠ o := fun e => h e2 (by rw [e1, e])
    rw [e3]
    exact vw_off (by simp) rfl (List.getElem?_set_ne hne) rfl rfl
theorem vw_free {n : Int} (h : n ≠ o) : vw x (gvC cs n) (frC cs ct n) (frV x cs vs n) o = vw x cs ct vs o := by
  cases hg : gvOk cs n
  · have hf : ¬ (gvOk cs n = true) := by simp [hg]
    unfold gvC frC frV
    rw [if_neg hf, if_neg hf, if_neg hf]
  · have hi : inN n cs.length = true := by unfold gvOk at hg; exact (Bool.and_eq_true _ _ ▸ hg : _ ∧ _).1
    have := inN_in hi
    have hne : n.toNat ≠ o := by omega
    unfold gvC frC frV
    rw [if_pos hg, if_pos hg, if_pos hg]
    exact vw_off (by simp) (by simp) (List.getElem?_set_ne hne) (List.getElem?_set_ne hne) (List.getElem?_set_ne hne)
theorem vw_cnt {n c : Int} (h : n ≠ o) : vw x cs (scC cs ct n c) vs o = vw x cs ct vs o := by
  unfold scC
  by_cases hs : scE cs n c = 0
  · rw [if_pos hs]
    have hi : inN n cs.length = true := by
      unfold scE at hs
      cases hi : inN n cs.length
      · rw [hi] at hs; simp at hs
      · rfl
    have := inN_in hi
    have hne : n.toNat ≠ o := by omega
    exact vw_off rfl (by simp) rfl (List.getElem?_set_ne hne) rfl
  · rw [if_neg hs]
theorem pl_in {n k : Int} (h : plE x cs n k = 0) : 0 ≤ n := by
  unfold plE inS slX at h
  cases hi : inN n x.n
  · rw [hi] at h
    have : inN k ((if false = true then x.sl n.toNat else 0 : Nat)) = false := by
      rw [if_neg (by decide)]
      unfold inN
      simp
    rw [this] at h
    simp at h
  · exact (inN_in hi).1
theorem vw_set {n k : Int} {y : Vl} (h : n ≠ o) : vw x cs ct (stV x cs vs n k y) o = vw x cs ct vs o := by
  unfold stV
  by_cases hs : stE x cs n k y = 0
  · rw [if_pos hs]
    have h0 : 0 ≤ n := by
      unfold stE at hs
      split at hs
      · exact pl_in hs
      · cases hs
    have hne : n.toNat ≠ o := by omega
    exact vw_off rfl rfl rfl rfl (List.getElem?_set_ne hne)
  · rw [if_neg hs]
end
section
variable {w0 w : World} {K : List Kb} {D : World → List Nat → Prop} {kb ab bs : Nat} {x : Sh} {L0 : List Int} {cs : List St} {p : Nat → List Int} {ct : List Int} {vs : List (List Vl)}
/-- What is allocated is empty. -/
def EmpZ (x : Sh) (cs : List St) (ct : List Int) (vs : List (List Vl)) (n : Int) : Prop := ∃ (i : Nat) (z : St), n = i ∧ cs[i]? = some z ∧ z.t = true ∧ ct[i]? = some 0 ∧ vs[i]? = some (nils (x.sl i))
theorem PS.alloced (h : PS w0 K (CE kb ab x bs L0 cs p ct vs) D w) (n : Int) (hn : tkE p n = 0) : EmpZ x (tkC cs p n) ct vs (tkV p n) := by
  obtain ⟨F, G, h⟩ := h
  obtain ⟨fb, cb, v, ac, L, t, hC, hR, hI, _⟩ := h.c
  rcases take_cases p n with hn' | ⟨k, rfl, hk, hp | ⟨M, i, hp⟩⟩
  · rw [(tk_arg (cs := cs) (p := p) hn').2.1] at hn; cases hn
  · rw [(tk_full (cs := cs) hk hp).2.1] at hn; cases hn
  · obtain ⟨i', z, rfl, hz, _, ht, _⟩ := hI.mem k hk i (by rw [hp]; simp)
    obtain ⟨e1, _, e3, _⟩ := tk_top hk hp hz
    obtain ⟨d1, d2⟩ := hR.dead i' z hz ht
    exact ⟨i', ⟨z.c, z.g, true⟩, e1, by rw [e3, at_set hz, if_pos rfl], rfl, d1, d2⟩
end
end Go.Proofs.YtplneoapcadlnaaDoor
