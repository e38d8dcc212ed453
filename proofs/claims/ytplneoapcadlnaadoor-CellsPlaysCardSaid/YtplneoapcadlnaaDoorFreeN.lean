/- Take and Give, the program's and the document's, each by one function of the state. -/
import Derived.Test.YtplneoapcadlnaaDoorFreeD
import Derived.Test.YtplneoapcadlnaaDoorFreeG
import Derived.Test.YtplneoapcadlnaaDoorFreeK
import Derived.Test.YtplneoapcadlnaaDoorFreeL
import Derived.Test.YtplneoapcadlnaaDoorFreeM
namespace Go.Proofs.YtplneoapcadlnaaDoor
open Go.RowKit

def tkV (p : Nat → List Int) (n : Int) : Int := if inN n 3 = true then (p n.toNat).getLast?.getD 0 else 0
def tkE (p : Nat → List Int) (n : Int) : Int := if inN n 3 = true then (if (p n.toNat).isEmpty = true then 8 else 0) else 1
def setT (cs : List St) (i : Nat) : List St := match cs[i]? with | some z => cs.set i ⟨z.c, z.g, true⟩ | none => cs
def tkC (cs : List St) (p : Nat → List Int) (n : Int) : List St := if inN n 3 = true then (match (p n.toNat).getLast? with | some i => setT cs i.toNat | none => cs) else cs
def tkP (p : Nat → List Int) (n : Int) : Nat → List Int := if inN n 3 = true then upd p n.toNat (p n.toNat).dropLast else p
def stAt (cs : List St) (n : Int) : St := cs[n.toNat]?.getD ⟨0, 0, false⟩
def gvOk (cs : List St) (n : Int) : Bool := inN n cs.length && (stAt cs n).t
def gvLast (cs : List St) (n : Int) : Bool := gvOk cs n && (stAt cs n).g == 4294967294
def gvE (cs : List St) (n : Int) : Int := if inN n cs.length = true then (if (stAt cs n).t = true then 0 else 9) else 1
def gvC (cs : List St) (n : Int) : List St := if gvOk cs n = true then cs.set n.toNat ⟨(stAt cs n).c, (stAt cs n).g + 1, false⟩ else cs
def gvP (cs : List St) (p : Nat → List Int) (n : Int) : Nat → List Int := if (gvOk cs n && !gvLast cs n) = true then upd p (stAt cs n).c.toNat (p (stAt cs n).c.toNat ++ [n]) else p

theorem upd_self {α : Type} (f : Nat → α) (k : Nat) : upd f k (f k) = f := by
  funext j
  unfold upd
  by_cases e : j = k <;> simp [e]
section
variable {cs : List St} {p : Nat → List Int}
theorem tk_arg {n : Int} (h : inN n 3 = false) : tkV p n = 0 ∧ tkE p n = 1 ∧ tkC cs p n = cs ∧ tkP p n = p := by simp [tkV, tkE, tkC, tkP, h]
theorem tk_full {k : Nat} (hk : k < 3) (hp : p k = []) : tkV p k = 0 ∧ tkE p k = 8 ∧ tkC cs p k = cs ∧ tkP p k = p := by
  have hi : inN (k : Int) 3 = true := inN_t (by omega)
  refine ⟨by simp [tkV, hi, hp], by simp [tkE, hi, hp], by simp [tkC, hi, hp], ?_⟩
  simp only [tkP, hi, if_true, Int.toNat_natCast]
  rw [hp]
  show upd p k [] = p
  rw [← hp, upd_self]
theorem tk_top {k i : Nat} {M : List Int} {z : St} (hk : k < 3) (hp : p k = M ++ [(i : Int)]) (hz : cs[i]? = some z) : tkV p k = i ∧ tkE p k = 0 ∧ tkC cs p k = cs.set i ⟨z.c, z.g, true⟩ ∧ tkP p k = upd p k M := by
  have hi : inN (k : Int) 3 = true := inN_t (by omega)
  refine ⟨by simp [tkV, hi, hp], by simp [tkE, hi, hp], by simp [tkC, hi, hp, setT, hz], by simp [tkP, hi, hp]⟩
theorem gv_arg {n : Int} (h : inN n cs.length = false) : gvLast cs n = false ∧ gvE cs n = 1 ∧ gvC cs n = cs ∧ gvP cs p n = p := by simp [gvLast, gvE, gvC, gvP, gvOk, h]
theorem gv_none {i : Nat} {z : St} (hz : cs[i]? = some z) (ht : z.t = false) : gvLast cs i = false ∧ gvE cs i = 9 ∧ gvC cs i = cs ∧ gvP cs p i = p := by
  have hi : inN (i : Int) cs.length = true := inN_t (by have := (List.getElem?_eq_some_iff.1 hz).1; omega)
  have hs : stAt cs (i : Int) = z := by simp [stAt, hz]
  simp [gvLast, gvE, gvC, gvP, gvOk, hi, hs, ht]
theorem gv_gone {i : Nat} {z : St} (hz : cs[i]? = some z) (ht : z.t = true) (hg : z.g = 4294967294) : gvLast cs i = true ∧ gvE cs i = 0 ∧ gvC cs i = cs.set i ⟨z.c, 4294967295, false⟩ ∧ gvP cs p i = p := by
  have hi : inN (i : Int) cs.length = true := inN_t (by have := (List.getElem?_eq_some_iff.1 hz).1; omega)
  have hs : stAt cs (i : Int) = z := by simp [stAt, hz]
  simp [gvLast, gvE, gvC, gvP, gvOk, hi, hs, ht, hg]
theorem gv_back {i k : Nat} {z : St} (hz : cs[i]? = some z) (ht : z.t = true) (hc : z.c = k) (hg : z.g < 4294967294) : gvLast cs i = false ∧ gvE cs i = 0 ∧ gvC cs i = cs.set i ⟨z.c, z.g + 1, false⟩ ∧ gvP cs p i = upd p k (p k ++ [(i : Int)]) := by
  have hi : inN (i : Int) cs.length = true := inN_t (by have := (List.getElem?_eq_some_iff.1 hz).1; omega)
  have hs : stAt cs (i : Int) = z := by simp [stAt, hz]
  have hge : (z.g == 4294967294) = false := by simp; omega
  simp [gvLast, gvE, gvC, gvP, gvOk, hi, hs, ht, hge, hc]
theorem map_g_take {i : Nat} {z : St} (hz : cs[i]? = some z) : (cs.set i ⟨z.c, z.g, true⟩).map St.g = cs.map St.g := by
  obtain ⟨hi, he⟩ := List.getElem?_eq_some_iff.1 hz
  apply List.ext_getElem?
  intro j
  rw [List.getElem?_map, at_set hz, List.getElem?_map]
  by_cases e : i = j
  · subst e; rw [if_pos rfl, hz]; rfl
  · rw [if_neg e]
theorem take_cases (p : Nat → List Int) (n : Int) : inN n 3 = false ∨ ∃ k : Nat, n = k ∧ k < 3 ∧ (p k = [] ∨ ∃ M i, p k = M ++ [i]) := by
  cases h : inN n 3
  · exact Or.inl rfl
  · have := inN_in h
    refine Or.inr ⟨n.toNat, by omega, by omega, ?_⟩
    rcases List.eq_nil_or_concat (p n.toNat) with e | ⟨M, i, e⟩
    · exact Or.inl e
    · exact Or.inr ⟨M, i, by rw [e]; simp⟩
theorem give_cases {x : Sh} (h : Inv x cs p) (n : Int) : inN n cs.length = false ∨ ∃ (i : Nat) (z : St), n = i ∧ cs[i]? = some z ∧ (z.t = false ∨ z.t = true ∧ (z.g = 4294967294 ∨ z.g < 4294967294 ∧ 0 ≤ z.g ∧ ∃ k : Nat, z.c = k ∧ k < 3)) := by
  cases hn : inN n cs.length
  · exact Or.inl rfl
  · have := inN_in hn
    obtain ⟨z, hz⟩ : ∃ z, cs[n.toNat]? = some z := ⟨_, List.getElem?_eq_getElem (by omega)⟩
    have hcl := h.cell _ z hz
    refine Or.inr ⟨n.toNat, z, by omega, hz, ?_⟩
    cases ht : z.t
    · exact Or.inl rfl
    · have := hcl.2.2.2.2 ht
      by_cases hg : z.g = 4294967294
      · exact Or.inr ⟨rfl, Or.inl hg⟩
      · exact Or.inr ⟨rfl, Or.inr ⟨by omega, by omega, z.c.toNat, by omega, by omega⟩⟩
theorem Inv.tk {x : Sh} (h : Inv x cs p) (n : Int) : Inv x (tkC cs p n) (tkP p n) := by
  rcases take_cases p n with hn | ⟨k, rfl, hk, hp | ⟨M, i, hp⟩⟩
  · obtain ⟨_, _, e3, e4⟩ := tk_arg (cs := cs) (p := p) hn
    rw [e3, e4]; exact h
  · obtain ⟨_, _, e3, e4⟩ := tk_full (cs := cs) hk hp
    rw [e3, e4]; exact h
  · obtain ⟨i', z, rfl, hz, _⟩ := h.mem k hk i (by rw [hp]; simp)
    obtain ⟨_, _, e3, e4⟩ := tk_top hk hp hz
    rw [e3, e4]; exact h.take hk hp hz
theorem Inv.gv {x : Sh} (h : Inv x cs p) (n : Int) : Inv x (gvC cs n) (gvP cs p n) := by
  rcases give_cases h n with hn | ⟨i, z, rfl, hz, ht | ⟨ht, hg | ⟨hg, _, k, hc, hk⟩⟩⟩
  · obtain ⟨_, _, e3, e4⟩ := gv_arg (p := p) hn
    rw [e3, e4]; exact h
  · obtain ⟨_, _, e3, e4⟩ := gv_none (p := p) hz ht
    rw [e3, e4]; exact h
  · obtain ⟨_, _, e3, e4⟩ := gv_gone (p := p) hz ht hg
    rw [e3, e4]; exact h.gone hz ht
  · obtain ⟨_, _, e3, e4⟩ := gv_back (p := p) hz ht hc hg
    rw [e3, e4]; exact h.back hk hz hc ht hg
end

section
variable {w : World} {hb cb : Nat} {v : Nat → Value} {cs : List St} {p : Nat → List Int} {x : Sh}
theorem foot_upd {k : Nat} {v' : Value} {w : World} (h : ∀ g, v'.ownBlock = some g → (v k).ownBlock = some g ∨ w.heap.size ≤ g) (hk : k < 3) : ∀ g ∈ frFoot hb cb (upd v k v'), g ∈ frFoot hb cb v ∨ w.heap.size ≤ g := by
  intro g hg
  rcases mem_frFoot.1 hg with rfl | rfl | ⟨j, hj, hg⟩
  · exact Or.inl (mem_frFoot.2 (by simp))
  · exact Or.inl (mem_frFoot.2 (by simp))
  · by_cases e : j = k
    · subst e
      rw [upd_same] at hg
      exact (h g hg).imp (fun e => mem_frFoot.2 (Or.inr (Or.inr ⟨j, hk, e⟩))) id
    · rw [upd_ne _ _ e] at hg
      exact Or.inl (mem_frFoot.2 (Or.inr (Or.inr ⟨j, hj, hg⟩)))
theorem only_two {w' : World} (ho : Only [hb, cb] w w') : Only (frFoot hb cb v) w w' := ho.more fun k hk => Or.inl (mem_frFoot.2 (by simp at hk; rcases hk with h | h <;> simp [h]))
theorem take_is (n : Int) (h : FrIn w hb cb v cs p) (hi : Inv x cs p) :
    Calls Tryd.prog 61 #[.pointer (some ⟨hb, 0, none⟩), .int .i64 n] w fun e w' => e = .returned (.tuple #[.int .i64 (tkV p n), .int .i64 (tkE p n)]) ∧
      ∃ v', FrIn w' hb cb v' (tkC cs p n) (tkP p n) ∧ Only (frFoot hb cb v) w w' ∧ (∀ g ∈ frFoot hb cb v', g ∈ frFoot hb cb v ∨ w.heap.size ≤ g) := by
  rcases take_cases p n with hn | ⟨k, rfl, hk, hp | ⟨M, i, hp⟩⟩
  · obtain ⟨e1, e2, e3, e4⟩ := tk_arg (cs := cs) (p := p) hn
    rw [e1, e2, e3, e4]
    exact (take_arg n hb w hn).mono fun e w' ⟨he, hw⟩ => by subst hw; exact ⟨he, v, h, Only.refl _ _, fun g hg => Or.inl hg⟩
  · obtain ⟨e1, e2, e3, e4⟩ := tk_full (cs := cs) hk hp
    rw [e1, e2, e3, e4]
    exact (take_full k hk h hp).mono fun e w' ⟨he, hw⟩ => by subst hw; exact ⟨he, v, h, Only.refl _ _, fun g hg => Or.inl hg⟩
  · obtain ⟨i', z, rfl, hz, _⟩ := hi.mem k hk i (by rw [hp]; simp)
    obtain ⟨e1, e2, e3, e4⟩ := tk_top hk hp hz
    rw [e1, e2, e3, e4]
    exact (take_top k i' hk h M z hp hz).mono fun e w' ⟨he, v', hF, hown, ho⟩ => ⟨he, _, hF, only_two ho, foot_upd (fun g hg => Or.inl (by rw [← hown]; exact hg)) hk⟩
theorem give_is (n : Int) (h : FrIn w hb cb v cs p) (hi : Inv x cs p) :
    Calls Tryd.prog 62 #[.pointer (some ⟨hb, 0, none⟩), .int .i64 n] w fun e w' => e = .returned (.tuple #[.bool (gvLast cs n), .int .i64 (gvE cs n)]) ∧
      ∃ v', FrIn w' hb cb v' (gvC cs n) (gvP cs p n) ∧ Only (frFoot hb cb v) w w' ∧ (∀ g ∈ frFoot hb cb v', g ∈ frFoot hb cb v ∨ w.heap.size ≤ g) := by
  rcases give_cases hi n with hn | ⟨i, z, rfl, hz, ht | ⟨ht, hg | ⟨hg, hg0, k, hc, hk⟩⟩⟩
  · obtain ⟨e1, e2, e3, e4⟩ := gv_arg (p := p) hn
    rw [e1, e2, e3, e4]
    exact (give_arg n h hn).mono fun e w' ⟨he, hw⟩ => by subst hw; exact ⟨he, v, h, Only.refl _ _, fun g hg => Or.inl hg⟩
  · obtain ⟨e1, e2, e3, e4⟩ := gv_none (p := p) hz ht
    rw [e1, e2, e3, e4]
    exact (give_none i z h hz ht).mono fun e w' ⟨he, hw⟩ => by subst hw; exact ⟨he, v, h, Only.refl _ _, fun g hg => Or.inl hg⟩
  · obtain ⟨e1, e2, e3, e4⟩ := gv_gone (p := p) hz ht hg
    rw [e1, e2, e3, e4]
    exact (give_gone i z h hz ht hg).mono fun e w' ⟨he, hF, ho⟩ => ⟨he, v, hF, only_two ho, fun g hg => Or.inl hg⟩
  · obtain ⟨e1, e2, e3, e4⟩ := gv_back (p := p) hz ht hc hg
    rw [e1, e2, e3, e4]
    exact (give_back i k hk z h hz ht hc hg0 hg (by have := hi.small hk; have := h.len; omega)).mono fun e w' ⟨he, v', hF, ho, hat⟩ => ⟨he, _, hF, ho, foot_upd hat hk⟩
end

section
variable {w : World} {hb gb ib : Nat} {u : Value} {x : Sh} {cs : List St} {p : Nat → List Int} {pl : List Int}
theorem rfoot_new {u' : Value} {w : World} (h : ∀ g, u'.ownBlock = some g → u.ownBlock = some g ∨ w.heap.size ≤ g) : ∀ g ∈ rfFoot hb gb ib u', g ∈ rfFoot hb gb ib u ∨ w.heap.size ≤ g := by
  intro g hg
  rcases mem_rfFoot.1 hg with rfl | rfl | rfl | hg
  · exact Or.inl (mem_rfFoot.2 (by simp))
  · exact Or.inl (mem_rfFoot.2 (by simp))
  · exact Or.inl (mem_rfFoot.2 (by simp))
  · exact (h g hg).imp (fun e => mem_rfFoot.2 (by simp [e])) id
theorem rtake_is (n : Int) (h : RfIn w hb gb ib u x (cs.map St.g) (cs.map St.s) pl) (hs : Sim x cs p pl) :
    Calls Tryd.prog 76 #[.pointer (some ⟨hb, 0, none⟩), .int .i64 n] w fun e w' => e = .returned (.tuple #[.int .i64 (tkV p n), .int .i64 (tkE p n)]) ∧
      ∃ u' pl', RfIn w' hb gb ib u' x ((tkC cs p n).map St.g) ((tkC cs p n).map St.s) pl' ∧ Sim x (tkC cs p n) (tkP p n) pl' ∧ Only (rfFoot hb gb ib u) w w' ∧ (∀ g ∈ rfFoot hb gb ib u', g ∈ rfFoot hb gb ib u ∨ w.heap.size ≤ g) := by
  have hpl : pl.length ≤ 1000 := by have := hs.small; have := h.len.1; simp at this; omega
  rcases take_cases p n with hn | ⟨k, rfl, hk, hp | ⟨M, i, hp⟩⟩
  · obtain ⟨e1, e2, e3, e4⟩ := tk_arg (cs := cs) (p := p) hn
    rw [e1, e2, e3, e4]
    exact (rtake_arg n hb w hn).mono fun e w' ⟨he, hw⟩ => by subst hw; exact ⟨he, u, pl, h, hs, Only.refl _ _, fun g hg => Or.inl hg⟩
  · obtain ⟨e1, e2, e3, e4⟩ := tk_full (cs := cs) hk hp
    rw [e1, e2, e3, e4]
    exact (rtake_full k hk h hpl (hs.none hk hp)).mono fun e w' ⟨he, hb⟩ => ⟨he, u, pl, h.more hb, hs, Only.of_below hb, fun g hg => Or.inl hg⟩
  · obtain ⟨A, B, hL, hc, hno, hA⟩ := hs.last hk hp
    obtain ⟨i', z, rfl, hz, hzc, hzt, hzg⟩ := hs.inv.mem k hk i (by rw [hp]; simp)
    obtain ⟨e1, e2, e3, e4⟩ := tk_top hk hp hz
    rw [e1, e2, e3, e4]
    have hil := (List.getElem?_eq_some_iff.1 hz).1
    refine (rtake_top k i' hk h hpl hL (by simpa using hil) hc hno).mono fun e w' ⟨he, u', hR, ho, hat⟩ => ⟨he, u', A ++ B, ?_, hs.take hk hp hz hL hA hno, ho.more (fun k hk => Or.inl (mem_rfFoot.2 (by simp at hk; rcases hk with h | h <;> simp [h]))), rfoot_new (fun g hg => Or.inr (hat g hg))⟩
    rw [map_g_take hz, List.map_set]
    exact hR
theorem rgive_is (n : Int) (h : RfIn w hb gb ib u x (cs.map St.g) (cs.map St.s) pl) (hs : Sim x cs p pl) :
    Calls Tryd.prog 74 #[.pointer (some ⟨hb, 0, none⟩), .int .i64 n] w fun e w' => e = .returned (.tuple #[.bool (gvLast cs n), .int .i64 (gvE cs n)]) ∧
      ∃ u' pl', RfIn w' hb gb ib u' x ((gvC cs n).map St.g) ((gvC cs n).map St.s) pl' ∧ Sim x (gvC cs n) (gvP cs p n) pl' ∧ Only (rfFoot hb gb ib u) w w' ∧ (∀ g ∈ rfFoot hb gb ib u', g ∈ rfFoot hb gb ib u ∨ w.heap.size ≤ g) := by
  have hpl : pl.length ≤ 1000 := by have := hs.small; have := h.len.1; simp at this; omega
  have o2 : ∀ {w' : World}, Only [gb, ib] w w' → Only (rfFoot hb gb ib u) w w' := fun ho => ho.more (fun k hk => Or.inl (mem_rfFoot.2 (by simp at hk; rcases hk with h | h <;> simp [h])))
  rcases give_cases hs.inv n with hn | ⟨i, z, rfl, hz, ht | ⟨ht, hg | ⟨hg, hg0, k, hc, hk⟩⟩⟩
  · obtain ⟨e1, e2, e3, e4⟩ := gv_arg (p := p) hn
    rw [e1, e2, e3, e4]
    exact (rgive_arg n h (by simpa using hn)).mono fun e w' ⟨he, hw⟩ => by subst hw; exact ⟨he, u, pl, h, hs, Only.refl _ _, fun g hg => Or.inl hg⟩
  · obtain ⟨e1, e2, e3, e4⟩ := gv_none (p := p) hz ht
    rw [e1, e2, e3, e4]
    refine (rgive_none i z.s h (by simp [hz]) ?_).mono fun e w' ⟨he, hw⟩ => by subst hw; exact ⟨he, u, pl, h, hs, Only.refl _ _, fun g hg => Or.inl hg⟩
    unfold St.s
    rw [if_neg (by simp [ht])]
    split <;> rfl
  · obtain ⟨e1, e2, e3, e4⟩ := gv_gone (p := p) hz ht hg
    rw [e1, e2, e3, e4]
    refine (rgive_gone i h (by simp [hz, St.s, ht]) (by simp [hz, hg])).mono fun e w' ⟨he, hR, ho⟩ => ⟨he, u, pl, ?_, hs.gone hz ht, o2 ho, fun g hg => Or.inl hg⟩
    rw [List.map_set, List.map_set]
    exact hR
  · obtain ⟨e1, e2, e3, e4⟩ := gv_back (p := p) hz ht hc hg
    rw [e1, e2, e3, e4]
    refine (rgive_back i z.g h (by simp [hz, St.s, ht]) (by simp [hz]) hg0 hg hpl).mono fun e w' ⟨he, u', hR, ho, hat⟩ => ⟨he, u', _, ?_, hs.back hk hz hc ht hg, ho, rfoot_new hat⟩
    rw [List.map_set, List.map_set]
    have : St.s ⟨z.c, z.g + 1, false⟩ = 0 := by unfold St.s; rw [if_neg (by simp), if_neg (by simp; omega)]
    rw [this]
    exact hR
end
end Go.Proofs.YtplneoapcadlnaaDoor
