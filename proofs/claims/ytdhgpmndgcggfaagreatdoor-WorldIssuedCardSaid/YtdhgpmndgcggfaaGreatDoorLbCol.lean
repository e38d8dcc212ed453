/- Plain: each live cell is counted; what a cut leaves; what is reached behind a cut, a drain, a user's act. Plain: what is reached behind a unit, and behind a user's act; how often it changed. Graphs among the arguments, opened. Never the living, in plain words. Plain: covered by the roots, the candidates, the queue and some more: behind a user's act, a drain, a cut, a round. Plain: a collector: its state, a unit, a step; what holds of it behind a user's act, and behind a unit. Plain: how many die in so many units. Plain: a round that goes bit by bit: its units; what holds on its way, and at its end. Plain: so many units: what holds behind them, what is reached, how many died. Plain: all the dead: how many units it takes. Plain: steps one behind another; at the beginning; what is told of a graph behind a step. -/
import Derived.Test.YtdhgpmndgcggfaaGreatDoorLbHepP
import Derived.Test.YtdhgpmndgcggfaaGreatDoorLbLaw
import Derived.Test.YtdhgpmndgcggfaaGreatDoorLbGra
import Derived.Test.YtdhgpmndgcggfaaGreatDoorLbBase
import Derived.SizedLaws
import Derived.Test.YtdhgpmndgcggfaaGreatDoorLbTchA
namespace Go.Proofs.YtdhgpmndgcggfaaGreatDoor
namespace Hp
open Go.RowKit

section
variable {x : Sh} {s t : Hs}
/-! What a cut leaves. -/
theorem cutTo_is {i : Nat} {l : List Vl} (hv : s.vs[i]? = some l) : ∀ j, j ≤ l.length → cutTo s i j = { s with vs := s.vs.set i (nils j ++ l.drop j), q := s.q ++ ptrs (l.take j) }
  | 0, _ => by
    have hi := (List.getElem?_eq_some_iff.1 hv).1
    have e : s.vs.set i l = s.vs := by
      obtain ⟨_, rfl⟩ := List.getElem?_eq_some_iff.1 hv
      exact List.set_getElem_self hi
    simp [cutTo, nils, ptrs, e]
  | j + 1, hj => by
    have hi := (List.getElem?_eq_some_iff.1 hv).1
    obtain ⟨o, ho⟩ : ∃ o, l[j]? = some o := ⟨_, List.getElem?_eq_getElem (by omega)⟩
    unfold cutTo
    rw [cutTo_is hv j (by omega)]
    unfold rpS
    have e0 : (s.vs.set i (nils j ++ l.drop j))[i]? = some (nils j ++ l.drop j) := by
      rw [List.getElem?_set_self hi]
    have e1 : (nils j ++ l.drop j)[j]? = some o := by
      rw [List.getElem?_append_right (by simp [nils])]
      simp [nils, ho]
    have e2 : vlAt (s.vs.set i (nils j ++ l.drop j)) i j = o := by
      unfold vlAt
      rw [Int.toNat_natCast, e0]
      simp [e1]
    have e3 : (nils j ++ l.drop j).set j Vl.nil = nils (j + 1) ++ l.drop (j + 1) := by
      rw [List.set_append_right _ _ (by simp [nils])]
      have ed : l.drop j = o :: l.drop (j + 1) := by
        obtain ⟨hjl, rfl⟩ := List.getElem?_eq_some_iff.1 ho
        exact List.drop_eq_getElem_cons hjl
      rw [ed]
      simp only [nils, List.length_replicate, Nat.sub_self, List.set_cons_zero]
      rw [List.replicate_succ', List.append_assoc]
      rfl
    simp only [Int.toNat_natCast, e0, Option.getD_some, e2, e3, List.set_set]
    have e4 : ptrs (l.take (j + 1)) = ptrs (l.take j) ++ ptrs [o] := by
      rw [List.take_add_one, ho]
      simp [ptrs]
    rw [e4, List.append_assoc]
theorem cu_is (h : Ok x s) {n : Int} (he : liE x s n = 0) : ∃ (i : Nat) (z : St) (l : List Vl), n = i ∧ i < x.n ∧ s.cs[i]? = some z ∧ z.t = true ∧ s.vs[i]? = some l ∧ s.outs i = ptrs l ∧
    cuS x s n = { s with vs := s.vs.set i (nils (x.sl i)), q := s.q ++ ptrs l, ch := tick s.ch } := by
  obtain ⟨i, z, rfl, hi, hz, ht⟩ := li_yes h he
  obtain ⟨l, hv, hl, _, ho⟩ := h.row hi
  refine ⟨i, z, l, rfl, hi, hz, ht, hv, ho, ?_⟩
  unfold cuS
  have e : slX x i = x.sl i := by unfold slX; rw [if_pos (inN_t (by omega)), Int.toNat_natCast]
  rw [if_pos he, e, cutTo_is (s := { s with ch := tick s.ch }) hv _ (by omega)]
  rw [List.take_of_length_le (by omega), List.drop_of_length_le (by omega), List.append_nil]
theorem li_taken (h : Ok x s) {n : Int} (ht : takenZ s.cs n = true) : liE x s n = 0 := by
  obtain ⟨i, y, rfl, hi, _⟩ := h.live_lt ht
  unfold liE
  rw [if_pos (inN_t (by omega)), if_pos ht]

/-! Each live cell is counted. -/
/-! A cell's lives. -/
structure Grows (s t : Hs) : Prop where
  gen : ∀ z, genZ s.cs z ≤ genZ t.cs z
  die : ∀ z, takenZ s.cs z = true → takenZ t.cs z = false → genZ s.cs z < genZ t.cs z
  life : ∀ z, takenZ s.cs z = true → takenZ t.cs z = true → genZ t.cs z = genZ s.cs z
theorem Grows.same (h : t.cs = s.cs) : Grows s t := ⟨fun z => by rw [h]; exact Int.le_refl _, fun z h1 h2 => (by rw [h, h1] at h2; cases h2), fun z _ _ => by rw [h]⟩
theorem gen_at {cs : List St} {i : Nat} {z : St} (h : cs[i]? = some z) : genZ cs i = z.g := by
  have hi : inN (i : Int) cs.length = true := inN_t (by have := (List.getElem?_eq_some_iff.1 h).1; omega)
  unfold genZ
  rw [if_pos hi, Int.toNat_natCast, h]
  rfl
theorem gen_set {cs : List St} {i : Nat} {z z' : St} (h : cs[i]? = some z) (n : Int) : genZ (cs.set i z') n = if n = i then z'.g else genZ cs n := by
  by_cases e : n = i
  · subst e
    rw [if_pos rfl, gen_at (z := z')]
    rw [at_set h, if_pos rfl]
  · rw [if_neg e]
    unfold genZ
    rw [List.length_set]
    by_cases hi : inN n cs.length = true
    · rw [if_pos hi, if_pos hi]
      have h1 := inN_in hi
      rw [at_set h, if_neg (by omega)]
    · rw [if_neg hi, if_neg hi]
theorem Grows.one (h : Ok x s) (hb : Qu.popB s.q = true) : Grows s (oneS x s) ∧ ∀ z, takenZ (oneS x s).cs z = true → takenZ s.cs z = true := by
  cases hd : diB s
  · rw [one_lo hb hd]
    exact ⟨Grows.same rfl, fun z hz => hz⟩
  · obtain ⟨i, z, l, e1, hz, ht, hv, hn1, hn2, ho, es⟩ := h.di_is hb hd
    rw [es]
    refine ⟨⟨fun y => ?_, fun y h1 h2 => ?_, fun y h1 h2 => ?_⟩, fun y hy => (taken_back hz rfl hy).2⟩
    · show genZ s.cs y ≤ genZ (s.cs.set i _) y
      rw [gen_set hz]
      split
      · rename_i e; rw [e, gen_at hz]; show z.g ≤ z.g + 1; omega
      · exact Int.le_refl _
    · show genZ s.cs y < genZ (s.cs.set i _) y
      rw [gen_set hz]
      split
      · rename_i e; rw [e, gen_at hz]; show z.g < z.g + 1; omega
      · rename_i e
        have h3 : takenZ (s.cs.set i ⟨z.c, z.g + 1, false⟩) y = false := h2
        rw [taken_off hz e h1] at h3
        cases h3
    · show genZ (s.cs.set i _) y = genZ s.cs y
      rw [gen_set hz, if_neg (taken_back hz rfl h2).1]
theorem Grows.trans {u : Hs} (h : Grows s t) (h' : Grows t u) (hb : ∀ z, takenZ u.cs z = true → takenZ t.cs z = true) : Grows s u := by
  refine ⟨fun z => Int.le_trans (h.gen z) (h'.gen z), fun z h1 h2 => ?_, fun z h1 h2 => ?_⟩
  · cases h3 : takenZ t.cs z
    · have := h.die z h1 h3
      have := h'.gen z
      omega
    · have := h'.die z h3 h2
      have := h.gen z
      omega
  · rw [h'.life z (hb z h2) h2, h.life z h1 (hb z h2)]
theorem Grows.dn : ∀ (n : Nat) {s : Hs}, Ok x s → Grows s (dnS x n s) ∧ ∀ z, takenZ (dnS x n s).cs z = true → takenZ s.cs z = true
  | 0, s, _ => ⟨Grows.same rfl, fun z hz => hz⟩
  | n + 1, s, h => by
    unfold dnS
    split
    · rename_i hb
      obtain ⟨g1, g2⟩ := Grows.one h hb
      obtain ⟨g3, g4⟩ := Grows.dn n (h.one hb).1
      exact ⟨g1.trans g3 g4, fun z hz => g2 z (g4 z hz)⟩
    · exact ⟨Grows.same rfl, fun z hz => hz⟩
theorem cu_cs (s : Hs) (n : Int) : (cuS x s n).cs = s.cs := by
  unfold cuS
  split
  · exact cut_cs _ n _
  · rfl
/-! What is reached. -/
theorem Ok.rch_live (h : Ok x s) {z : Int} {fr : List Int} (hz : Gr.Rch s.gr fr z) : takenZ s.cs z = true := live_iff.1 (hz.node h.ri)
end
end Hp
end Go.Proofs.YtdhgpmndgcggfaaGreatDoor

namespace Go.Proofs.YtdhgpmndgcggfaaGreatDoor
namespace Hp
open Go.RowKit

section
variable {x : Sh} {s t : Hs}
/-! One is drained. -/
theorem one_r (s : Hs) : (oneS x s).r = s.r := by unfold oneS; split <;> rfl
theorem one_ch (s : Hs) : (oneS x s).ch = tick s.ch := by unfold oneS; split <;> rfl
theorem Ok.one_lt (h : Ok x s) (hb : Qu.popB s.q = true) : (oneS x s).all.length < s.all.length := by
  cases hd : diB s
  · rw [one_lo hb hd]
    obtain ⟨i, z, N, e1, hi, hz, ht, e2, hN, h1, hc, hl, hct⟩ := h.pop hb
    show (allV s.vs ++ (s.r ++ Qu.popS s.q)).length < _
    simp only [Hs.all, List.length_append]
    omega
  · obtain ⟨i, z, l, e1, hz, ht, hv, hn1, hn2, ho, es⟩ := h.di_is hb hd
    obtain ⟨_, _, N, _, _, _, _, _, _, h1, _, hl, _⟩ := h.pop hb
    rw [es]
    have hlv := allV_len hv (nils (x.sl i))
    rw [ptrs_nils] at hlv
    show (allV (s.vs.set i (nils (x.sl i))) ++ (s.r ++ (Qu.popS s.q ++ ptrs l))).length < _
    simp only [Hs.all, List.length_append, List.length_nil] at hlv ⊢
    omega
/-! Changes. -/
theorem tick_is {c : Int} (h0 : 0 ≤ c) (h1 : c ≤ 4611686018427387904) : tick c = c + 1 := wrap64_of (by unfold i64ok; omega)
theorem Ok.dn_ch : ∀ (n : Nat) {s : Hs}, Ok x s → 0 ≤ s.ch → s.ch + s.all.length ≤ 4611686018427387904 → ∃ k : Nat, k ≤ s.all.length ∧ (dnS x n s).ch = s.ch + k ∧ (k = 0 → dnS x n s = s)
  | 0, s, _, _, _ => ⟨0, Nat.zero_le _, by simp [dnS], fun _ => rfl⟩
  | n + 1, s, h, h0, h1 => by
    unfold dnS
    by_cases hb : Qu.popB s.q = true
    · rw [if_pos hb]
      have hlt := h.one_lt hb
      have hc : (oneS x s).ch = s.ch + 1 := by rw [one_ch, tick_is h0 (by omega)]
      obtain ⟨k, hk, e, _⟩ := Ok.dn_ch n (h.one hb).1 (by omega) (by omega)
      exact ⟨k + 1, by omega, by rw [e, hc]; push_cast; omega, fun e => by omega⟩
    · rw [if_neg hb]
      exact ⟨0, Nat.zero_le _, by simp, fun _ => rfl⟩
theorem Ok.do_ch (h : Ok x s) (a : Hact) (hu : a.k % 9 ≤ 7) (h0 : 0 ≤ s.ch) (h1 : s.ch ≤ 4611686018427380000) (hq : s.all.length ≤ 900) : ∃ k : Nat, k ≤ 901 ∧ (doS x s a).ch = s.ch + k ∧ (k = 0 → doS x s a = s) := by
  have ht : tick s.ch = s.ch + 1 := tick_is h0 (by omega)
  have hst : ∃ k : Nat, k ≤ 901 ∧ s.ch = s.ch + k ∧ (k = 0 → s = s) := ⟨0, by omega, by simp, fun _ => rfl⟩
  have hon : ∀ {t : Hs}, t.ch = tick s.ch → ∃ k : Nat, k ≤ 901 ∧ t.ch = s.ch + k ∧ (k = 0 → t = s) := fun e => ⟨1, by omega, by rw [e, ht]; rfl, fun e => by omega⟩
  unfold doS
  split
  · unfold hoS
    split
    · exact hon rfl
    · exact hst
  split
  · unfold drS
    split
    · exact hon rfl
    · exact hst
  split
  · unfold puS
    split
    · exact hon rfl
    · exact hst
  split
  · obtain ⟨k, h2, h3, h4⟩ := Ok.dn_ch a.n.toNat h h0 (by omega)
    exact ⟨k, by omega, h3, h4⟩
  split
  · by_cases he : liE x s a.c = 0
    · obtain ⟨i, z, l, _, _, _, _, _, _, e⟩ := cu_is h he
      refine hon ?_
      rw [e]
    · have e : cuS x s a.c = s := by unfold cuS; rw [if_neg he]
      rw [e]
      exact hst
  split
  · rename_i e
    have : a.k % 9 = 8 := by simpa using e
    omega
  · unfold alS
    split
    · exact hon rfl
    · exact hst
/-! A cell is cut. -/
theorem Ok.cu_r (h : Ok x s) {n : Int} (ht : takenZ s.cs n = true) : (cuS x s n).r = s.r ∧ (cuS x s n).k = s.k ∧ (cuS x s n).q = s.q ++ s.outs n ∧ (cuS x s n).ch = tick s.ch := by
  obtain ⟨i, v, l, rfl, hi, hv, hvt, hvl, ho, e⟩ := cu_is h (li_taken h ht)
  rw [e, ho]
  exact ⟨rfl, rfl, rfl, rfl⟩
/-! A user. -/
end
end Hp
end Go.Proofs.YtdhgpmndgcggfaaGreatDoor

namespace Go.Proofs.YtdhgpmndgcggfaaGreatDoor
namespace Gr
open Go.ChangeShapes Go.WideShapes Go.ChangeAt Go.WideMaps Go.WideElems Go.RowKit Go.Deep

end Gr
end Go.Proofs.YtdhgpmndgcggfaaGreatDoor

namespace Go.Proofs.YtdhgpmndgcggfaaGreatDoor
namespace Tr
open Go.RowKit Go.Maps Gr

section
variable {G : Gp} {k gray : List Int}
theorem held_iff {z : Int} : z ∈ heldL G k gray ↔ z ∈ gray ∧ 0 < restV G k gray z := by
  unfold heldL
  rw [List.mem_filter]
  simp
theorem node_of {z : Int} (h : z ∈ ids G) : ∃ (i : Nat) (x : Nd), G.nodes[i]? = some x ∧ x.id = z := by
  obtain ⟨i, hi⟩ := List.mem_iff_getElem?.1 h
  obtain ⟨x, hx, e⟩ := ids_at_inv hi
  exact ⟨i, x, hx, e⟩
end
end Tr
end Go.Proofs.YtdhgpmndgcggfaaGreatDoor

namespace Go.Proofs.YtdhgpmndgcggfaaGreatDoor
namespace Hp
open Go.RowKit

section
variable {x : Sh} {s t : Hs} {v : List Int}
theorem rch_mono {G : Gr.Gp} {a b : List Int} (hs : ∀ y ∈ Gr.ids G, y ∈ a → y ∈ b) {z : Int} (hz : Gr.Rch G a z) : Gr.Rch G b z := fun S h1 h2 => hz S (fun y hy hf => h1 y hy (hs y hy hf)) h2
/-! More candidates. -/
/-! A cut. -/
/-! A round. -/
def cntsL (s : Hs) : List Int := (Gr.ids s.gr).map (ctZ s.ct)
end
end Hp
end Go.Proofs.YtdhgpmndgcggfaaGreatDoor

namespace Go.Proofs.YtdhgpmndgcggfaaGreatDoor
namespace Hp
open Go.RowKit

structure Cs where
  cu : List Int
  ge : List Int
  is : Bool
  ch : Int
  un : Int
  wh : List Int
  fr : List Int
def Cs.init : Cs := ⟨[], [], false, 0, 0, [], []⟩
def staleB (c : Cs) (s : Hs) : Bool := !c.is || !(c.ch == s.ch)
def begC (c : Cs) (s : Hs) : Cs := ⟨c.cu, c.ge, true, s.ch, 3 * (Tr.grayA s.gr s.k).length - (Tr.whiteA s.gr (cntsL s) s.k).length, Tr.whiteA s.gr (cntsL s) s.k, s.k⟩
def curC (c : Cs) (s : Hs) : Cs := if staleB c s = true then begC c s else c
def endC (c : Cs) (s : Hs) : Cs := ⟨c.wh, c.wh.map (genZ s.cs), false, c.ch, 0, c.wh, c.fr⟩
def vB (s : Hs) (p : Int × Int) : Bool := takenZ s.cs p.1 && genZ s.cs p.1 == p.2
/-- One unit: can it be, how many died, what is left. -/
def uniB (c : Cs) (s : Hs) : Bool := !c.cu.isEmpty || (Qu.popB s.q || !(staleB c s && s.k.isEmpty))
def uniN (c : Cs) (s : Hs) : Int := if c.cu.isEmpty = true then (if Qu.popB s.q = true then (if diB s = true then 1 else 0) else 0) else 0
def uniC (c : Cs) (s : Hs) : Cs :=
  if c.cu.isEmpty = true then (if Qu.popB s.q = true then c else if (staleB c s && s.k.isEmpty) = true then { c with is := false } else
    if (curC c s).un - 1 = 0 then endC (curC c s) s else { curC c s with un := (curC c s).un - 1 })
  else { c with cu := c.cu.tail, ge := c.ge.tail }
def uniS (x : Sh) (c : Cs) (s : Hs) : Hs :=
  if c.cu.isEmpty = true then (if Qu.popB s.q = true then oneS x s else if (staleB c s && s.k.isEmpty) = true then s else
    if (curC c s).un - 1 = 0 then fgS s (curC c s).fr else s)
  else if vB s (c.cu.headD 0, c.ge.headD 0) = true then cuS x s (c.cu.headD 0) else s
/-- So many units, or as many as can be. -/
def stC (x : Sh) : Nat → Cs → Hs → Cs
  | 0, c, _ => c
  | n + 1, c, s => if uniB c s = true then stC x n (uniC c s) (uniS x c s) else uniC c s
def stS (x : Sh) : Nat → Cs → Hs → Hs
  | 0, _, s => s
  | n + 1, c, s => if uniB c s = true then stS x n (uniC c s) (uniS x c s) else s
def stN (x : Sh) : Nat → Cs → Hs → Int
  | 0, _, _ => 0
  | n + 1, c, s => if uniB c s = true then uniN c s + stN x n (uniC c s) (uniS x c s) else 0
section
variable {x : Sh} {c : Cs} {s t : Hs}
/-! A unit. -/
/-- How the four kinds of a unit go. -/
inductive Kind (x : Sh) (c : Cs) (s : Hs) : Cs → Hs → Int → Prop
  | cut (n g : Int) (cs gs : List Int) (hc : c.cu = n :: cs) (hg : c.ge = g :: gs) (hv : takenZ s.cs n = true) (hn : genZ s.cs n = g) (hr : ¬ Gr.Rch s.gr s.r n) : Kind x c s { c with cu := cs, ge := gs } (cuS x s n) 0
  | skip (n g : Int) (cs gs : List Int) (hc : c.cu = n :: cs) (hg : c.ge = g :: gs) (hv : vB s (n, g) = false) : Kind x c s { c with cu := cs, ge := gs } s 0
  | drain (hc : c.cu = []) (hb : Qu.popB s.q = true) : Kind x c s c (oneS x s) (if diB s = true then 1 else 0)
  | round (hc : c.cu = []) (hb : s.q = []) (d : Cs) (hd : staleB c s = true ∧ s.k ≠ [] ∧ d = begC c s ∨ staleB c s = false ∧ d = c) (hu : d.un - 1 ≠ 0) : Kind x c s { d with un := d.un - 1 } s 0
  | last (hc : c.cu = []) (hb : s.q = []) (d : Cs) (hd : staleB c s = true ∧ s.k ≠ [] ∧ d = begC c s ∨ staleB c s = false ∧ d = c) (hu : d.un - 1 = 0) : Kind x c s (endC d s) (fgS s d.fr) 0
theorem Ok.ids_le (h : Ok x s) : (Gr.ids s.gr).length ≤ x.n := by
  rw [gr_ids, ← h.l1]
  exact live_len _ _
end
end Hp
end Go.Proofs.YtdhgpmndgcggfaaGreatDoor

namespace Go.Proofs.YtdhgpmndgcggfaaGreatDoor
namespace Hp
section
variable {x : Sh}
theorem uni_le (c : Cs) (s : Hs) : 0 ≤ uniN c s ∧ uniN c s ≤ 1 := by
  unfold uniN
  repeat' split
  all_goals omega
theorem dn_le : ∀ (n : Nat) (s : Hs), 0 ≤ dnN x n s ∧ dnN x n s ≤ n
  | 0, _ => ⟨Int.le_refl _, Int.le_refl _⟩
  | n + 1, s => by
    unfold dnN
    have := dn_le n (oneS x s)
    split
    · split <;> omega
    · omega
theorem st_le : ∀ (n : Nat) (c : Cs) (s : Hs), 0 ≤ stN x n c s ∧ stN x n c s ≤ n
  | 0, _, _ => ⟨Int.le_refl _, Int.le_refl _⟩
  | n + 1, c, s => by
    unfold stN
    have h1 := st_le n (uniC c s) (uniS x c s)
    have h2 := uni_le c s
    split <;> omega
end
end Hp
end Go.Proofs.YtdhgpmndgcggfaaGreatDoor

namespace Go.Proofs.YtdhgpmndgcggfaaGreatDoor
namespace Hp
open Go.RowKit

/-- A round: changes when it began, candidates, gray ones (found, looked at), black ones, how many were weighed, rests, generations. -/
structure Rn where
  ch : Int
  k : List Int
  g : List Int
  gl : Nat
  b : List Int
  bl : Nat
  wg : Nat
  f : Int → Int
  gn : Int → Int
def addO (l : List Int) (o : Int) : List Int := if Rt.hasB l o = true then l else l ++ [o]
def lookL (l outs : List Int) : List Int := outs.foldl addO l
def heldR (g : List Int) (f : Int → Int) : List Int := g.filter (fun z => decide (0 < wrap64 (f z)))
def Rn.new (s : Hs) : Rn := ⟨s.ch, s.k, s.k, 0, [], 0, 0, fun _ => 0, fun _ => 0⟩
def wf (s : Hs) (f : Int → Int) (c : Int) : Int → Int := fun z => f z + (if z = c then ctZ s.ct c else 0) - ((s.outs c).count z : Int)
def markR (s : Hs) (r : Rn) : Rn := { r with g := lookL r.g (s.outs (r.g.getD r.gl 0)), gl := r.gl + 1 }
def wghR (s : Hs) (r : Rn) : Rn :=
  { r with wg := r.wg + 1, f := wf s r.f (r.g.getD r.wg 0), gn := fun z => if z = r.g.getD r.wg 0 then genZ s.cs (r.g.getD r.wg 0) else r.gn z, b := if r.wg + 1 = r.g.length then heldR r.g (wf s r.f (r.g.getD r.wg 0)) else r.b }
def blkR (s : Hs) (r : Rn) : Rn := { r with b := lookL r.b (s.outs (r.b.getD r.bl 0)), bl := r.bl + 1 }
def stepR (s : Hs) (r : Rn) : Rn := if r.gl < r.g.length then markR s r else if r.wg < r.g.length then wghR s r else blkR s r
def moreR (r : Rn) : Bool := decide (r.gl < r.g.length) || (decide (r.wg < r.g.length) || decide (r.bl < r.b.length))
def usedR (r : Rn) : Nat := r.gl + r.wg + r.bl
/-- How many units a round takes. -/
def unitsR (s : Hs) (k : List Int) : Nat := 2 * (Gr.reachL s.gr k).length + (Gr.reachL s.gr (Tr.heldL s.gr (cntsL s) (Gr.reachL s.gr k))).length
def whiteR (r : Rn) : List Int := (r.g.mergeSort (fun x y => decide (x ≤ y))).filter (fun z => !Rt.hasB r.b z)

theorem mem_addO {l : List Int} {o z : Int} : z ∈ addO l o ↔ z ∈ l ∨ z = o := by
  unfold addO
  split
  · rename_i h
    exact ⟨Or.inl, fun h' => h'.elim id (fun e => e ▸ Rt.hasB_iff.1 h)⟩
  · simp
theorem mem_lookL {z : Int} : ∀ (outs l : List Int), z ∈ lookL l outs ↔ z ∈ l ∨ z ∈ outs
  | [], l => by simp [lookL]
  | o :: outs, l => by
    have := mem_lookL (z := z) outs (addO l o)
    unfold lookL at *
    rw [List.foldl_cons, this, mem_addO, List.mem_cons, or_assoc]
theorem addO_pre (l : List Int) (o : Int) : ∃ e, addO l o = l ++ e := by
  unfold addO
  split
  · exact ⟨[], by simp⟩
  · exact ⟨_, rfl⟩
theorem lookL_pre : ∀ (outs l : List Int), ∃ e, lookL l outs = l ++ e
  | [], l => ⟨[], by simp [lookL]⟩
  | o :: outs, l => by
    obtain ⟨e1, h1⟩ := addO_pre l o
    obtain ⟨e2, h2⟩ := lookL_pre outs (addO l o)
    refine ⟨e1 ++ e2, ?_⟩
    unfold lookL at *
    rw [List.foldl_cons, h2, h1, List.append_assoc]
theorem addO_nodup {l : List Int} (h : l.Nodup) (o : Int) : (addO l o).Nodup := by
  unfold addO
  split
  · exact h
  · rename_i hn
    rw [List.nodup_append]
    refine ⟨h, by simp, fun a ha b hb => ?_⟩
    obtain rfl : b = o := by simpa using hb
    rintro rfl
    exact hn (Rt.hasB_iff.2 ha)
theorem lookL_nodup : ∀ (outs : List Int) {l : List Int}, l.Nodup → (lookL l outs).Nodup
  | [], _, h => h
  | o :: outs, l, h => by
    have := lookL_nodup outs (addO_nodup h o)
    exact this
theorem lookL_len (outs l : List Int) : l.length ≤ (lookL l outs).length := by
  obtain ⟨e, h⟩ := lookL_pre outs l
  rw [h, List.length_append]
  omega
theorem lookL_take (outs l : List Int) {n : Nat} (h : n ≤ l.length) : (lookL l outs).take n = l.take n := by
  obtain ⟨e, he⟩ := lookL_pre outs l
  rw [he, List.take_append_of_le_length h]
theorem getD_at {l : List Int} {i : Nat} (h : i < l.length) : l[i]? = some (l.getD i 0) := by
  rw [List.getD_eq_getElem?_getD, List.getElem?_eq_getElem h]
  rfl
theorem take_at {l : List Int} {i : Nat} (h : i < l.length) : l.take (i + 1) = l.take i ++ [l.getD i 0] := Tr.take_snoc (getD_at h)

/-- What holds of a round on its way. -/
structure RI (s : Hs) (r : Rn) : Prop where
  kl : ∀ z ∈ r.k, takenZ s.cs z = true
  ne : r.k ≠ []
  sub : ∀ z ∈ r.k, z ∈ r.g
  nd : r.g.Nodup
  rch : ∀ z ∈ r.g, Gr.Rch s.gr r.k z
  cl : ∀ z ∈ r.g.take r.gl, ∀ o ∈ s.outs z, o ∈ r.g
  gl : r.gl ≤ r.g.length
  w0 : r.gl < r.g.length → r.wg = 0
  wl : r.wg ≤ r.g.length
  f : ∀ z, r.f z = (if z ∈ r.g.take r.wg then ctZ s.ct z else 0) - (((r.g.take r.wg).flatMap s.outs).count z : Int)
  gn : ∀ z ∈ r.g.take r.wg, r.gn z = genZ s.cs z
  b0 : r.wg < r.g.length → r.b = [] ∧ r.bl = 0
  bl : r.bl ≤ r.b.length
  bnd : r.b.Nodup
  bsub : r.wg = r.g.length → ∀ z ∈ heldR r.g r.f, z ∈ r.b
  brch : ∀ z ∈ r.b, Gr.Rch s.gr (heldR r.g r.f) z
  bcl : ∀ z ∈ r.b.take r.bl, ∀ o ∈ s.outs z, o ∈ r.b
section
variable {x : Sh} {s t : Hs} {r : Rn}
theorem RI.pos (h : RI s r) : 0 < r.g.length := by
  obtain ⟨z, hz⟩ := List.exists_mem_of_ne_nil _ h.ne
  exact List.length_pos_of_mem (h.sub z hz)
theorem RI.live (h : RI s r) (hok : Ok x s) {z : Int} (hz : z ∈ r.g) : takenZ s.cs z = true := hok.rch_live (h.rch z hz)
theorem RI.blive (h : RI s r) (hok : Ok x s) {z : Int} (hz : z ∈ r.b) : takenZ s.cs z = true := hok.rch_live (h.brch z hz)
theorem Ok.step_out (hok : Ok x s) {fr : List Int} {z o : Int} (hz : Gr.Rch s.gr fr z) (ho : o ∈ s.outs z) : Gr.Rch s.gr fr o :=
  Gr.Rch.step (n := ⟨z, s.outs z⟩) (mem_nodes.2 ⟨hok.rch_live hz, rfl⟩) hz ho
theorem RI.new (hok : Ok x s) (hk : s.k ≠ []) : RI s (Rn.new s) where
  kl := hok.klive
  ne := hk
  sub := fun _ h => h
  nd := Gr.inc_nodup hok.kinc.1
  rch := fun z hz => Gr.Rch.start (live_iff.2 (hok.klive z hz)) hz
  cl := fun z hz => by simp [Rn.new] at hz
  gl := Nat.zero_le _
  w0 := fun _ => rfl
  wl := Nat.zero_le _
  f := fun z => by simp [Rn.new]
  gn := fun z hz => by simp [Rn.new] at hz
  b0 := fun _ => ⟨rfl, rfl⟩
  bl := Nat.zero_le _
  bnd := by simp [Rn.new]
  bsub := fun e => by
    have h0 : (0 : Nat) = s.k.length := e
    exact absurd (List.eq_nil_of_length_eq_zero h0.symm) hk
  brch := fun z hz => by simp [Rn.new] at hz
  bcl := fun z hz => by simp [Rn.new] at hz
theorem RI.mark (h : RI s r) (hok : Ok x s) (hl : r.gl < r.g.length) : RI s (markR s r) := by
  have hw := h.w0 hl
  have hp := h.pos
  obtain ⟨hb, hbl⟩ := h.b0 (by omega)
  have hc : r.g.getD r.gl 0 ∈ r.g := List.mem_of_getElem? (getD_at hl)
  have hm : ∀ z, z ∈ (markR s r).g ↔ z ∈ r.g ∨ z ∈ s.outs (r.g.getD r.gl 0) := fun z => mem_lookL _ _
  have hlen := lookL_len (s.outs (r.g.getD r.gl 0)) r.g
  refine ⟨h.kl, h.ne, fun z hz => (hm z).2 (Or.inl (h.sub z hz)), lookL_nodup _ h.nd, fun z hz => ?_, fun z hz o ho => ?_, ?_, fun _ => hw, ?_, fun z => ?_, fun z hz => ?_, fun _ => ⟨hb, hbl⟩, ?_, h.bnd, fun e => ?_, fun z hz => ?_, fun z hz => ?_⟩
  · rcases (hm z).1 hz with hz | hz
    · exact h.rch z hz
    · exact hok.step_out (h.rch _ hc) hz
  · have e : (markR s r).g.take (markR s r).gl = r.g.take r.gl ++ [r.g.getD r.gl 0] := by
      show (lookL r.g _).take (r.gl + 1) = _
      rw [lookL_take _ _ (by omega), take_at hl]
    rw [e] at hz
    rcases List.mem_append.1 hz with hz | hz
    · exact (hm o).2 (Or.inl (h.cl z hz o ho))
    · obtain rfl : z = _ := by simpa using hz
      exact (hm o).2 (Or.inr ho)
  · show r.gl + 1 ≤ (lookL r.g _).length
    omega
  · show r.wg ≤ (lookL r.g _).length
    omega
  · show r.f z = (if z ∈ (lookL r.g (s.outs (r.g.getD r.gl 0))).take r.wg then ctZ s.ct z else 0) - ((((lookL r.g (s.outs (r.g.getD r.gl 0))).take r.wg).flatMap s.outs).count z : Int)
    have := h.f z
    rw [hw] at this ⊢
    simpa using this
  · have hz' : z ∈ (lookL r.g _).take r.wg := hz
    rw [hw] at hz'
    simp at hz'
  · show r.bl ≤ r.b.length
    exact h.bl
  · have e' : r.wg = (lookL r.g (s.outs (r.g.getD r.gl 0))).length := e
    omega
  · have hz' : z ∈ r.b := hz
    rw [hb] at hz'
    cases hz'
  · have hz' : z ∈ r.b.take r.bl := hz
    rw [hb] at hz'
    simp at hz'
theorem wf_is (h : RI s r) (hl : r.wg < r.g.length) (z : Int) :
    wf s r.f (r.g.getD r.wg 0) z = (if z ∈ r.g.take (r.wg + 1) then ctZ s.ct z else 0) - (((r.g.take (r.wg + 1)).flatMap s.outs).count z : Int) := by
  have hn : r.g.getD r.wg 0 ∉ r.g.take r.wg := by
    intro hm
    have hnd : (r.g.take (r.wg + 1)).Nodup := h.nd.sublist (List.take_sublist _ _)
    rw [take_at hl, List.nodup_append] at hnd
    exact hnd.2.2 _ hm _ (by simp) rfl
  unfold wf
  rw [h.f z, take_at hl, List.flatMap_append, List.count_append]
  by_cases e : z = r.g.getD r.wg 0
  · subst e
    rw [if_pos rfl, if_neg hn, if_pos (by simp)]
    simp
    omega
  · rw [if_neg e]
    by_cases hm : z ∈ r.g.take r.wg
    · rw [if_pos hm, if_pos (by simp [hm])]
      simp
      omega
    · rw [if_neg hm, if_neg (by
        intro hm'
        rcases List.mem_append.1 hm' with h' | h'
        · exact hm h'
        · exact e (by simpa using h'))]
      simp
      omega
theorem RI.wgh (h : RI s r) (hok : Ok x s) (hgl : ¬ r.gl < r.g.length) (hl : r.wg < r.g.length) : RI s (wghR s r) := by
  obtain ⟨hb, hbl⟩ := h.b0 hl
  have hbd : ∀ e : r.wg + 1 ≠ r.g.length, (wghR s r).b = [] := fun e => by
    show (if _ then _ else _) = _
    rw [if_neg e, hb]
  have hby : ∀ e : r.wg + 1 = r.g.length, (wghR s r).b = heldR r.g (wghR s r).f := fun e => by
    show (if _ then _ else _) = _
    rw [if_pos e]
    rfl
  refine ⟨h.kl, h.ne, h.sub, h.nd, h.rch, h.cl, h.gl, fun e => absurd e hgl, hl, fun z => wf_is h hl z, fun z hz => ?_, fun e => ⟨hbd (by have : r.wg + 1 < r.g.length := e; omega), hbl⟩, ?_, ?_, fun e z hz => ?_, fun z hz => ?_, fun z hz => ?_⟩
  · have hz' : z ∈ r.g.take (r.wg + 1) := hz
    show (if z = _ then _ else _) = _
    by_cases e : z = r.g.getD r.wg 0
    · rw [if_pos e, ← e]
    · rw [if_neg e]
      rw [take_at hl] at hz'
      rcases List.mem_append.1 hz' with h' | h'
      · exact h.gn z h'
      · exact absurd (by simpa using h') e
  · show r.bl ≤ _
    rw [hbl]
    exact Nat.zero_le _
  · by_cases e : r.wg + 1 = r.g.length
    · rw [hby e]
      exact h.nd.filter _
    · rw [hbd e]
      exact List.nodup_nil
  · rw [hby e]
    exact hz
  · by_cases e : r.wg + 1 = r.g.length
    · rw [hby e] at hz
      exact Gr.Rch.start (live_iff.2 (h.live hok (List.mem_filter.1 hz).1)) hz
    · rw [hbd e] at hz
      cases hz
  · have hz' : z ∈ (wghR s r).b.take r.bl := hz
    rw [hbl] at hz'
    simp at hz'
theorem RI.blk (h : RI s r) (hok : Ok x s) (_ : ¬ r.gl < r.g.length) (hwg : ¬ r.wg < r.g.length) (hl : r.bl < r.b.length) : RI s (blkR s r) := by
  have hc : r.b.getD r.bl 0 ∈ r.b := List.mem_of_getElem? (getD_at hl)
  have hm : ∀ z, z ∈ (blkR s r).b ↔ z ∈ r.b ∨ z ∈ s.outs (r.b.getD r.bl 0) := fun z => mem_lookL _ _
  have hlen := lookL_len (s.outs (r.b.getD r.bl 0)) r.b
  refine ⟨h.kl, h.ne, h.sub, h.nd, h.rch, h.cl, h.gl, h.w0, h.wl, h.f, h.gn, fun e => absurd e hwg, ?_, lookL_nodup _ h.bnd, fun e z hz => (hm z).2 (Or.inl (h.bsub e z hz)), fun z hz => ?_, fun z hz o ho => ?_⟩
  · show r.bl + 1 ≤ (lookL r.b _).length
    omega
  · rcases (hm z).1 hz with hz | hz
    · exact h.brch z hz
    · exact hok.step_out (h.brch _ hc) hz
  · have e : (blkR s r).b.take (blkR s r).bl = r.b.take r.bl ++ [r.b.getD r.bl 0] := by
      show (lookL r.b _).take (r.bl + 1) = _
      rw [lookL_take _ _ (by omega), take_at hl]
    rw [e] at hz
    rcases List.mem_append.1 hz with hz | hz
    · exact (hm o).2 (Or.inl (h.bcl z hz o ho))
    · obtain rfl : z = _ := by simpa using hz
      exact (hm o).2 (Or.inr ho)
theorem RI.step (h : RI s r) (hok : Ok x s) (hm : moreR r = true) : RI s (stepR s r) ∧ usedR (stepR s r) = usedR r + 1 := by
  unfold stepR
  by_cases h1 : r.gl < r.g.length
  · rw [if_pos h1]
    exact ⟨h.mark hok h1, by show r.gl + 1 + r.wg + r.bl = r.gl + r.wg + r.bl + 1; omega⟩
  · rw [if_neg h1]
    by_cases h2 : r.wg < r.g.length
    · rw [if_pos h2]
      exact ⟨h.wgh hok h1 h2, by show r.gl + (r.wg + 1) + r.bl = r.gl + r.wg + r.bl + 1; omega⟩
    · rw [if_neg h2]
      have h3 : r.bl < r.b.length := by
        unfold moreR at hm
        simpa [h1, h2] using hm
      exact ⟨h.blk hok h1 h2 h3, by show r.gl + r.wg + (r.bl + 1) = r.gl + r.wg + r.bl + 1; omega⟩
/-! Its end. -/
theorem reach_set (hok : Ok x s) {a b : List Int} (h : ∀ z, z ∈ a ↔ z ∈ b) : Gr.reachL s.gr a = Gr.reachL s.gr b :=
  Gr.inc_ext (Gr.reach_inc hok.ri _) (Gr.reach_inc hok.ri _) (fun z => by
    rw [Gr.mem_reach hok.ri, Gr.mem_reach hok.ri]
    exact ⟨rch_mono (fun y _ hy => (h y).1 hy), rch_mono (fun y _ hy => (h y).2 hy)⟩)
theorem closed_is (hok : Ok x s) {l fr : List Int} (h1 : ∀ z ∈ fr, z ∈ l) (h2 : ∀ z ∈ l, Gr.Rch s.gr fr z) (h3 : ∀ z ∈ l, ∀ o ∈ s.outs z, o ∈ l) (z : Int) : z ∈ l ↔ z ∈ Gr.reachL s.gr fr := by
  rw [Gr.mem_reach hok.ri]
  refine ⟨h2 z, fun hz => hz (fun y => y ∈ l) (fun y _ hf => h1 y hf) (fun n hn hS o ho => ?_)⟩
  obtain ⟨_, e⟩ := mem_nodes.1 hn
  rw [e] at ho
  exact h3 _ hS o ho
theorem RI.gray_is (h : RI s r) (hok : Ok x s) (e : r.gl = r.g.length) (z : Int) : z ∈ r.g ↔ z ∈ Gr.reachL s.gr r.k :=
  closed_is hok h.sub h.rch (fun z hz => h.cl z (by rw [e, List.take_length]; exact hz)) z
theorem RI.gray_len (h : RI s r) (hok : Ok x s) : r.g.length ≤ (Gr.reachL s.gr r.k).length ∧ (r.gl = r.g.length → r.g.length = (Gr.reachL s.gr r.k).length) := by
  refine ⟨List.Nodup.length_le_of_subset h.nd (fun z hz => (Gr.mem_reach hok.ri).2 (h.rch z hz)), fun e => ?_⟩
  exact List.Perm.length_eq ((List.perm_ext_iff_of_nodup h.nd (Gr.inc_nodup (Gr.reach_inc hok.ri _))).2 (h.gray_is hok e))
theorem RI.rest_is (h : RI s r) (hok : Ok x s) (e : r.gl = r.g.length) (ew : r.wg = r.g.length) {z : Int} (hz : z ∈ r.g) : wrap64 (r.f z) = Tr.restV s.gr (cntsL s) (Gr.reachL s.gr r.k) z := by
  obtain ⟨i, y, hy, rfl⟩ := Tr.node_of (live_iff.2 (h.live hok hz))
  have hc : (cntsL s)[i]? = some (ctZ s.ct y.id) := by
    unfold cntsL
    rw [List.getElem?_map, Gr.ids_at hy]
    rfl
  unfold Tr.restV
  rw [Tr.restX_at hok.ri hy hc, h.f, ew, List.take_length, if_pos hz]
  congr 2
  have hG : ∀ l : List Gr.Nd, (∀ n ∈ l, n.out = s.outs n.id) → l.flatMap Gr.Nd.out = (l.map Gr.Nd.id).flatMap s.outs := by
    intro l
    induction l with
    | nil => intro _; rfl
    | cons n l ih =>
      intro hl
      rw [List.flatMap_cons, List.map_cons, List.flatMap_cons, ih (fun m hm => hl m (List.mem_cons_of_mem _ hm)), hl n (List.mem_cons_self ..)]
  have hp : r.g.Perm ((s.gr.nodes.filter (fun n => Rt.hasB (Gr.reachL s.gr r.k) n.id)).map Gr.Nd.id) := by
    refine (List.perm_ext_iff_of_nodup h.nd ?_).2 (fun z => ?_)
    · exact (Gr.inc_nodup hok.ri.inc).sublist ((List.filter_sublist).map _)
    · rw [h.gray_is hok e, List.mem_map]
      constructor
      · intro hz
        obtain ⟨j, n, hn, rfl⟩ := Tr.node_of (Gr.reach_ids hz)
        exact ⟨n, List.mem_filter.2 ⟨List.mem_of_getElem? hn, Rt.hasB_iff.2 hz⟩, rfl⟩
      · rintro ⟨n, hn, rfl⟩
        exact Rt.hasB_iff.1 (List.mem_filter.1 hn).2
  unfold Tr.ptrs
  rw [hG _ (fun n hn => (mem_nodes.1 (List.mem_filter.1 hn).1).2)]
  exact congrArg Int.ofNat ((hp.flatMap_right s.outs).count_eq y.id)
theorem RI.held_is (h : RI s r) (hok : Ok x s) (e : r.gl = r.g.length) (ew : r.wg = r.g.length) (z : Int) : z ∈ heldR r.g r.f ↔ z ∈ Tr.heldL s.gr (cntsL s) (Gr.reachL s.gr r.k) := by
  rw [Tr.held_iff]
  unfold heldR
  rw [List.mem_filter, ← h.gray_is hok e]
  constructor
  · rintro ⟨h1, h2⟩
    exact ⟨h1, by rw [← h.rest_is hok e ew h1]; simpa using h2⟩
  · rintro ⟨h1, h2⟩
    exact ⟨h1, by rw [← h.rest_is hok e ew h1] at h2; simpa using h2⟩
theorem RI.black_len (h : RI s r) (hok : Ok x s) (e : r.gl = r.g.length) (ew : r.wg = r.g.length) :
    r.b.length ≤ (Gr.reachL s.gr (Tr.heldL s.gr (cntsL s) (Gr.reachL s.gr r.k))).length ∧ (r.bl = r.b.length → r.b.length = (Gr.reachL s.gr (Tr.heldL s.gr (cntsL s) (Gr.reachL s.gr r.k))).length ∧ ∀ z, z ∈ r.b ↔ z ∈ Gr.reachL s.gr (Tr.heldL s.gr (cntsL s) (Gr.reachL s.gr r.k))) := by
  rw [← reach_set hok (h.held_is hok e ew)]
  refine ⟨List.Nodup.length_le_of_subset h.bnd (fun z hz => (Gr.mem_reach hok.ri).2 (h.brch z hz)), fun eb => ?_⟩
  have hm := closed_is hok (h.bsub ew) h.brch (fun z hz => h.bcl z (by rw [eb, List.take_length]; exact hz))
  exact ⟨List.Perm.length_eq ((List.perm_ext_iff_of_nodup h.bnd (Gr.inc_nodup (Gr.reach_inc hok.ri _))).2 hm), hm⟩
theorem RI.more (h : RI s r) (hok : Ok x s) : if moreR r = true then usedR r < unitsR s r.k else usedR r = unitsR s r.k := by
  obtain ⟨g1, g2⟩ := h.gray_len hok
  unfold moreR usedR unitsR
  have hgl := h.gl
  have hwl := h.wl
  have hbl := h.bl
  by_cases h1 : r.gl < r.g.length
  · have hw := h.w0 h1
    obtain ⟨_, hb⟩ := h.b0 (by omega)
    rw [if_pos (by simp [h1])]
    omega
  · have e : r.gl = r.g.length := by omega
    have g3 := g2 e
    by_cases h2 : r.wg < r.g.length
    · obtain ⟨_, hb⟩ := h.b0 h2
      rw [if_pos (by simp [h2])]
      omega
    · have ew : r.wg = r.g.length := by omega
      obtain ⟨b1, b2⟩ := h.black_len hok e ew
      by_cases h3 : r.bl < r.b.length
      · rw [if_pos (by simp [h3])]
        omega
      · rw [if_neg (by simp [h1, h2, h3])]
        have b3 := (b2 (by omega)).1
        omega
theorem more_no (h : moreR r = false) (hi : RI s r) : r.gl = r.g.length ∧ r.wg = r.g.length ∧ r.bl = r.b.length := by
  unfold moreR at h
  simp only [Bool.or_eq_false_iff, decide_eq_false_iff_not] at h
  have := hi.gl
  have := hi.wl
  have := hi.bl
  omega
theorem sorted_inc {l : List Int} (h : l.Nodup) : (l.mergeSort (fun x y => decide (x ≤ y))).Pairwise (· < ·) := by
  have h1 := List.pairwise_mergeSort (le := fun x y : Int => decide (x ≤ y)) (fun a b c hab hbc => by simp at *; omega) (fun a b => by simp; omega) l
  have h2 : (l.mergeSort (fun x y => decide (x ≤ y))).Nodup := (List.mergeSort_perm l _).nodup_iff.2 h
  refine List.Pairwise.imp₂ ?_ h1 h2
  intro a b hab hne
  simp at hab
  omega
theorem RI.white_is (h : RI s r) (hok : Ok x s) (hm : moreR r = false) : whiteR r = Tr.whiteL s.gr (cntsL s) (Gr.reachL s.gr r.k) ∧ ∀ z ∈ whiteR r, r.gn z = genZ s.cs z := by
  obtain ⟨e, ew, eb⟩ := more_no hm h
  have hgm := h.gray_is hok e
  have hbm := ((h.black_len hok e ew).2 eb).2
  have hs : r.g.mergeSort (fun x y => decide (x ≤ y)) = Gr.reachL s.gr r.k :=
    Gr.inc_ext (sorted_inc h.nd) (Gr.reach_inc hok.ri _) (fun z => by rw [List.mem_mergeSort, hgm])
  have hw : whiteR r = Tr.whiteL s.gr (cntsL s) (Gr.reachL s.gr r.k) := by
    unfold whiteR Tr.whiteL
    rw [hs]
    refine List.filter_congr (fun z _ => ?_)
    congr 1
    rw [Bool.eq_iff_iff, Rt.hasB_iff, Rt.hasB_iff, hbm]
  refine ⟨hw, fun z hz => h.gn z ?_⟩
  rw [ew, List.take_length]
  unfold whiteR at hz
  rw [List.mem_filter, List.mem_mergeSort] at hz
  exact hz.1
theorem Ok.trial (hok : Ok x s) {k : List Int} (hk : ∀ z ∈ k, takenZ s.cs z = true) : Tr.trialB s.gr (cntsL s) k = true ∧ Tr.grayA s.gr k = Gr.reachL s.gr k := by
  have hw : Gr.withinB k (Gr.ids s.gr) = true := Gr.withinB_iff.2 (fun z hz => live_iff.2 (hk z hz))
  constructor
  · unfold Tr.trialB
    rw [hok.right, hw]
    have e1 : (cntsL s).length = s.gr.nodes.length := by simp [cntsL, Gr.ids]
    have e2 : Tr.nnB (cntsL s) = true := by
      unfold Tr.nnB cntsL
      rw [List.all_eq_true]
      intro c hc
      obtain ⟨z, hz, rfl⟩ := List.mem_map.1 hc
      obtain ⟨i, y, rfl, hi, _⟩ := hok.live_lt (live_iff.1 hz)
      rw [hok.ctz hi]
      simp
    simp [e1, e2]
  · unfold Tr.grayA Gr.reachA
    rw [if_pos hw, if_pos hok.right]
theorem filter_both (p : Int → Bool) : ∀ l : List Int, l.length = (l.filter p).length + (l.filter (fun z => !p z)).length
  | [] => rfl
  | z :: l => by
    have ih := filter_both p l
    rw [List.filter_cons, List.filter_cons]
    cases p z <;> simp <;> omega
theorem Ok.units (hok : Ok x s) {k : List Int} (hk : ∀ z ∈ k, takenZ s.cs z = true) :
    ((unitsR s k : Nat) : Int) = 3 * ((Tr.grayA s.gr k).length : Int) - ((Tr.whiteA s.gr (cntsL s) k).length : Int) ∧ Tr.whiteA s.gr (cntsL s) k = Tr.whiteL s.gr (cntsL s) (Gr.reachL s.gr k) := by
  obtain ⟨h1, h2⟩ := hok.trial hk
  have hW : Tr.whiteA s.gr (cntsL s) k = Tr.whiteL s.gr (cntsL s) (Gr.reachL s.gr k) := by
    unfold Tr.whiteA
    rw [if_pos h1]
  refine ⟨?_, hW⟩
  rw [hW, h2]
  have key : (Gr.reachL s.gr k).length = (Gr.reachL s.gr (Tr.heldL s.gr (cntsL s) (Gr.reachL s.gr k))).length + (Tr.whiteL s.gr (cntsL s) (Gr.reachL s.gr k)).length := by
    generalize hB : Gr.reachL s.gr (Tr.heldL s.gr (cntsL s) (Gr.reachL s.gr k)) = B
    unfold Tr.whiteL
    rw [hB]
    have h3 : ((Gr.reachL s.gr k).filter (fun z => Rt.hasB B z)).Perm B := by
      refine (List.perm_ext_iff_of_nodup ((Gr.inc_nodup (Gr.reach_inc hok.ri _)).filter _) (by rw [← hB]; exact Gr.inc_nodup (Gr.reach_inc hok.ri _))).2 (fun z => ?_)
      rw [List.mem_filter, Rt.hasB_iff]
      refine ⟨fun h => h.2, fun h => ⟨?_, h⟩⟩
      rw [← hB, Gr.mem_reach hok.ri] at h
      rw [Gr.mem_reach hok.ri]
      exact h (fun y => Gr.Rch s.gr k y) (fun y hy hf => (Gr.mem_reach hok.ri).1 (Tr.held_iff.1 hf).1) (fun n hn hS o ho => Gr.Rch.step hn hS ho)
    rw [← h3.length_eq]
    exact filter_both _ _
  unfold unitsR
  omega
end
end Hp
end Go.Proofs.YtdhgpmndgcggfaaGreatDoor

namespace Go.Proofs.YtdhgpmndgcggfaaGreatDoor
namespace Hp
open Go.RowKit

end Hp
end Go.Proofs.YtdhgpmndgcggfaaGreatDoor

namespace Go.Proofs.YtdhgpmndgcggfaaGreatDoor
namespace Hp
open Go.RowKit

end Hp
end Go.Proofs.YtdhgpmndgcggfaaGreatDoor

namespace Go.Proofs.YtdhgpmndgcggfaaGreatDoor
namespace Hp
open Go.RowKit

end Hp
end Go.Proofs.YtdhgpmndgcggfaaGreatDoor
