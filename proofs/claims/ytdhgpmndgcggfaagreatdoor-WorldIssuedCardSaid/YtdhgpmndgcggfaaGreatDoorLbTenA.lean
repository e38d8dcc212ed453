/- Plain: a tenant: what a word names; what each act answers and leaves; an answer with an error changes nothing. Plain: a tenant: which words were told: they name a cell just as long as the life that they were told for lasts, and they were not dropped. The program's heap: Alloc, Hold, Drop, Put: how many words are touched. Written by gen3.py out of CellG, HepB .. HepM. What is asked of the program's tenant; what is plain of a collector behind a tenant's acts. Plain: which words were told: behind each act. Plain: what a tenant's heap holds: generations, values. -/
import Derived.Test.YtdhgpmndgcggfaaGreatDoorLbRnL
import Derived.Test.YtdhgpmndgcggfaaGreatDoorLbTchB
import Derived.Test.YtdhgpmndgcggfaaGreatDoorLbHepL
import Derived.Test.YtdhgpmndgcggfaaGreatDoorLbCol
namespace Go.Proofs.YtdhgpmndgcggfaaGreatDoor
namespace Tn
open Hp Go.RowKit

/-! Words (handles). -/
def wdK (x : Int) : Int := x / 288230376151711744 % 4
def wdT (x : Int) : Int := x / 1152921504606846976 + 1
def wdI (x : Int) : Int := x / 4294967296 % 67108864
def wdG (x : Int) : Int := x % 4294967296
/-- The word of a root. -/
def wrd (N i g : Int) : Int := 1152921504606846976 * (N - 1) + 288230376151711744 + 4294967296 * i + g
/-- Is a word a handle of the tenant's of Kind root? (Its Index, and its generation, may be any.) -/
def mineB (N w : Int) : Bool := wdK w == 1 && wdT w == N
theorem wrd_of {N i g : Int} (hi : 0 ≤ i) (hi2 : i ≤ 67108863) (hg : 0 ≤ g) (hg2 : g ≤ 4294967295) : wdK (wrd N i g) = 1 ∧ wdT (wrd N i g) = N ∧ wdI (wrd N i g) = i ∧ wdG (wrd N i g) = g := by
  unfold wdK wdT wdI wdG wrd
  refine ⟨by omega, by omega, by omega, by omega⟩
theorem of_wrd {N w : Int} (h : mineB N w = true) : wrd N (wdI w) (wdG w) = w := by
  unfold mineB at h
  simp only [Bool.and_eq_true, beq_iff_eq] at h
  unfold wdK wdT at h
  unfold wrd wdI wdG
  omega

/-! What a word names. -/
def nmE (x : Sh) (N : Int) (s : Hs) (w : Int) : Int :=
  if mineB N w = true ∧ inN (wdI w) x.n = true then (if genZ s.cs (wdI w) < wdG w then 4 else if wdG w < genZ s.cs (wdI w) ∨ Rt.hasB s.r (wdI w) = false then 5 else 0) else 4
def nmV (x : Sh) (N : Int) (s : Hs) (w : Int) : Int := if nmE x N s w = 0 then wdI w else 0
theorem nm_yes {x : Sh} {N w : Int} {s : Hs} : nmE x N s w = 0 ↔ mineB N w = true ∧ inN (wdI w) x.n = true ∧ wdG w = genZ s.cs (wdI w) ∧ Rt.hasB s.r (wdI w) = true := by
  unfold nmE
  by_cases h : mineB N w = true ∧ inN (wdI w) x.n = true
  · rw [if_pos h]
    split
    · constructor
      · intro e; cases e
      · rintro ⟨_, _, e, _⟩; omega
    · split
      · rename_i h1 h2
        constructor
        · intro e; cases e
        · rintro ⟨_, _, e, e'⟩
          rcases h2 with h2 | h2
          · omega
          · rw [e'] at h2; cases h2
      · rename_i h1 h2
        rw [not_or] at h2
        exact ⟨fun _ => ⟨h.1, h.2, by omega, by simpa using h2.2⟩, fun _ => rfl⟩
  · rw [if_neg h]
    constructor
    · intro e; cases e
    · rintro ⟨a, b, _⟩
      exact absurd ⟨a, b⟩ h

/-! Answers. -/
structure An where
  e : Int
  k : Int
  w : Int
def wrong (e : Int) : An := ⟨e, 0, 0⟩
def datum (n : Int) : An := ⟨0, 1, n⟩
def ptrA (N : Int) (s : Hs) (i : Int) : An := ⟨0, 2, wrd N i (genZ s.cs i)⟩
/-- An act: its kind modulo 10, a word, another (a number), two numbers. -/
structure Tact where
  k : Int
  w : Int
  o : Int
  n : Int
  m : Int
def slE (x : Sh) (N : Int) (s : Hs) (w slot : Int) : Int := if nmE x N s w = 0 then (if inS x (wdI w) slot = true then 0 else 3) else nmE x N s w
def allocA (x : Sh) (N : Int) (s : Hs) (n : Int) : An := if alE x s n = 0 then ptrA N (alS x s n) (alV x s n) else wrong (if alE x s n = 1 then 3 else alE x s n)
def dropA (x : Sh) (N : Int) (s : Hs) (w : Int) : An := wrong (if nmE x N s w = 0 then drE x s (wdI w) else nmE x N s w)
def dropS (x : Sh) (N : Int) (s : Hs) (w : Int) : Hs := if nmE x N s w = 0 then drS x s (wdI w) else s
def loadA (x : Sh) (N : Int) (s : Hs) (w slot : Int) : An :=
  if slE x N s w slot = 0 then (if (gtV x s.cs s.vs (wdI w) slot).k = 2 then (if hoE x s (gtV x s.cs s.vs (wdI w) slot).n = 0 then ptrA N (hoS x s (gtV x s.cs s.vs (wdI w) slot).n) (gtV x s.cs s.vs (wdI w) slot).n else wrong (hoE x s (gtV x s.cs s.vs (wdI w) slot).n))
    else ⟨0, (gtV x s.cs s.vs (wdI w) slot).k, (gtV x s.cs s.vs (wdI w) slot).n⟩) else wrong (slE x N s w slot)
def loadS (x : Sh) (N : Int) (s : Hs) (w slot : Int) : Hs :=
  if slE x N s w slot = 0 ∧ (gtV x s.cs s.vs (wdI w) slot).k = 2 then hoS x s (gtV x s.cs s.vs (wdI w) slot).n else s
def storeA (x : Sh) (N : Int) (s : Hs) (w slot n : Int) : An := wrong (if slE x N s w slot = 0 then (if 9223372036854775807 < n then 3 else puE x s (wdI w) slot ⟨1, n⟩) else slE x N s w slot)
def storeS (x : Sh) (N : Int) (s : Hs) (w slot n : Int) : Hs := if slE x N s w slot = 0 ∧ ¬ 9223372036854775807 < n then puS x s (wdI w) slot ⟨1, n⟩ else s
def pointA (x : Sh) (N : Int) (s : Hs) (w slot t : Int) : An :=
  wrong (if slE x N s w slot = 0 then (if t = 0 then puE x s (wdI w) slot ⟨0, 0⟩ else if nmE x N s t = 0 then puE x s (wdI w) slot ⟨2, wdI t⟩ else nmE x N s t) else slE x N s w slot)
def pointS (x : Sh) (N : Int) (s : Hs) (w slot t : Int) : Hs :=
  if slE x N s w slot = 0 then (if t = 0 then puS x s (wdI w) slot ⟨0, 0⟩ else if nmE x N s t = 0 then puS x s (wdI w) slot ⟨2, wdI t⟩ else s) else s
def budB (n : Int) : Bool := decide (1 ≤ n) && decide (n ≤ 65536)
def lookA (x : Sh) (s : Hs) (cell gen slot : Int) : An :=
  if hdE s.cs cell = 0 ∧ takenZ s.cs cell = true ∧ genZ s.cs cell = gen then (if inS x cell slot = true then (if (gtV x s.cs s.vs cell slot).k = 2 then ⟨0, 2, 0⟩ else ⟨0, (gtV x s.cs s.vs cell slot).k, (gtV x s.cs s.vs cell slot).n⟩) else wrong 3) else wrong 6
/-- What an act answers, and leaves: the heap, its collector. (The number that is a generation for Look: as an int.) -/
def tnA (x : Sh) (N : Int) (s : Hs) (c : Cs) (a : Tact) : An :=
  if a.k % 10 = 2 then dropA x N s a.w else if a.k % 10 = 3 then loadA x N s a.w a.n else if a.k % 10 = 4 then storeA x N s a.w a.n a.o else if a.k % 10 = 5 then pointA x N s a.w a.n a.o
  else if a.k % 10 = 6 then (if budB a.n = true then datum (dnN x a.n.toNat s) else wrong 3) else if a.k % 10 = 7 then (if budB a.n = true then datum (stN x a.n.toNat c s) else wrong 3)
  else if a.k % 10 = 8 then datum s.u else if a.k % 10 = 9 then lookA x s a.m (wrap64 a.o) a.n else allocA x N s a.n
def tnS (x : Sh) (N : Int) (s : Hs) (c : Cs) (a : Tact) : Hs :=
  if a.k % 10 = 2 then dropS x N s a.w else if a.k % 10 = 3 then loadS x N s a.w a.n else if a.k % 10 = 4 then storeS x N s a.w a.n a.o else if a.k % 10 = 5 then pointS x N s a.w a.n a.o
  else if a.k % 10 = 6 then (if budB a.n = true then dnS x a.n.toNat s else s) else if a.k % 10 = 7 then (if budB a.n = true then stS x a.n.toNat c s else s)
  else if a.k % 10 = 8 then s else if a.k % 10 = 9 then s else alS x s a.n
def tnC (x : Sh) (s : Hs) (c : Cs) (a : Tact) : Cs := if a.k % 10 = 7 ∧ budB a.n = true then stC x a.n.toNat c s else c
section
variable {x : Sh} {N : Int} {s : Hs} {c : Cs}
theorem al_no {n : Int} (h : alE x s n ≠ 0) : alS x s n = s := by unfold alS; rw [if_neg h]
theorem dr_no {n : Int} (h : drE x s n ≠ 0) : drS x s n = s := by unfold drS; rw [if_neg h]
theorem ho_no {n : Int} (h : hoE x s n ≠ 0) : hoS x s n = s := by
  unfold hoS
  rw [if_neg]
  rintro ⟨h1, h2, h3⟩
  apply h
  unfold hoE
  rw [if_pos h1, h2, if_neg (by simp), h3]
theorem pu_no {n k : Int} {y : Vl} (h : puE x s n k y ≠ 0) : puS x s n k y = s := by unfold puS; rw [if_neg h]
/-- An answer with an error tells nothing else, and changes nothing. -/
theorem err_same (a : Tact) (h : (tnA x N s c a).e ≠ 0) : tnS x N s c a = s ∧ (tnA x N s c a).k = 0 ∧ (tnA x N s c a).w = 0 ∧ tnC x s c a = c := by
  unfold tnA at h ⊢
  unfold tnS tnC
  by_cases k2 : a.k % 10 = 2
  · rw [if_pos k2] at h ⊢
    rw [if_pos k2, if_neg (fun e => by omega)]
    refine ⟨?_, rfl, rfl, rfl⟩
    unfold dropA wrong at h
    unfold dropS
    split
    · rename_i h1
      rw [if_pos h1] at h
      exact dr_no h
    · rfl
  rw [if_neg k2] at h ⊢
  rw [if_neg k2]
  by_cases k3 : a.k % 10 = 3
  · rw [if_pos k3] at h ⊢
    rw [if_pos k3, if_neg (fun e => by omega)]
    unfold loadA at h ⊢
    unfold loadS
    by_cases h1 : slE x N s a.w a.n = 0
    · rw [if_pos h1] at h ⊢
      by_cases h2 : (gtV x s.cs s.vs (wdI a.w) a.n).k = 2
      · rw [if_pos h2] at h ⊢
        rw [if_pos ⟨h1, h2⟩]
        by_cases h3 : hoE x s (gtV x s.cs s.vs (wdI a.w) a.n).n = 0
        · rw [if_pos h3] at h
          exact absurd rfl h
        · rw [if_neg h3] at h ⊢
          exact ⟨ho_no h3, rfl, rfl, rfl⟩
      · rw [if_neg h2] at h
        exact absurd rfl h
    · rw [if_neg h1] at h ⊢
      rw [if_neg (fun e => h1 e.1)]
      exact ⟨rfl, rfl, rfl, rfl⟩
  rw [if_neg k3] at h ⊢
  rw [if_neg k3]
  by_cases k4 : a.k % 10 = 4
  · rw [if_pos k4] at h ⊢
    rw [if_pos k4, if_neg (fun e => by omega)]
    refine ⟨?_, rfl, rfl, rfl⟩
    unfold storeA wrong at h
    unfold storeS
    by_cases h1 : slE x N s a.w a.n = 0
    · rw [if_pos h1] at h
      by_cases h2 : 9223372036854775807 < a.o
      · rw [if_neg (fun e => e.2 h2)]
      · rw [if_neg h2] at h
        rw [if_pos ⟨h1, h2⟩]
        exact pu_no h
    · rw [if_neg (fun e => h1 e.1)]
  rw [if_neg k4] at h ⊢
  rw [if_neg k4]
  by_cases k5 : a.k % 10 = 5
  · rw [if_pos k5] at h ⊢
    rw [if_pos k5, if_neg (fun e => by omega)]
    refine ⟨?_, rfl, rfl, rfl⟩
    unfold pointA wrong at h
    unfold pointS
    by_cases h1 : slE x N s a.w a.n = 0
    · rw [if_pos h1] at h ⊢
      by_cases h2 : a.o = 0
      · rw [if_pos h2] at h ⊢
        exact pu_no h
      · rw [if_neg h2] at h ⊢
        by_cases h3 : nmE x N s a.o = 0
        · rw [if_pos h3] at h ⊢
          exact pu_no h
        · rw [if_neg h3]
    · rw [if_neg h1]
  rw [if_neg k5] at h ⊢
  rw [if_neg k5]
  by_cases k6 : a.k % 10 = 6
  · simp only [if_pos k6] at h ⊢
    rw [if_neg (show ¬ (a.k % 10 = 7 ∧ budB a.n = true) from fun e => by have := e.1; omega)]
    by_cases hb : budB a.n = true
    · simp only [if_pos hb] at h
      exact absurd rfl h
    · simp only [if_neg hb]
      exact ⟨trivial, rfl, rfl, trivial⟩
  simp only [if_neg k6] at h ⊢
  by_cases k7 : a.k % 10 = 7
  · simp only [if_pos k7] at h ⊢
    by_cases hb : budB a.n = true
    · simp only [if_pos hb] at h
      exact absurd rfl h
    · rw [if_neg (show ¬ (a.k % 10 = 7 ∧ budB a.n = true) from fun e => hb e.2)]
      simp only [if_neg hb]
      exact ⟨trivial, rfl, rfl, trivial⟩
  simp only [if_neg k7] at h ⊢
  rw [if_neg (show ¬ (a.k % 10 = 7 ∧ budB a.n = true) from fun e => k7 e.1)]
  by_cases k8 : a.k % 10 = 8
  · simp only [if_pos k8] at h
    exact absurd rfl h
  simp only [if_neg k8] at h ⊢
  by_cases k9 : a.k % 10 = 9
  · simp only [if_pos k9] at h ⊢
    unfold lookA at h ⊢
    split at h
    · split at h
      · split at h <;> exact absurd rfl h
      · rename_i h1 h2
        rw [if_pos h1, if_neg h2]
        exact ⟨by first | trivial | rfl, rfl, rfl, by first | trivial | rfl⟩
    · rename_i h1
      rw [if_neg h1]
      exact ⟨by first | trivial | rfl, rfl, rfl, by first | trivial | rfl⟩
  simp only [if_neg k9] at h ⊢
  unfold allocA at h ⊢
  by_cases h1 : alE x s a.n = 0
  · rw [if_pos h1] at h
    exact absurd rfl h
  · rw [if_neg h1]
    exact ⟨al_no h1, rfl, rfl, by first | trivial | rfl⟩
end
end Tn
end Go.Proofs.YtdhgpmndgcggfaaGreatDoor

namespace Go.Proofs.YtdhgpmndgcggfaaGreatDoor
namespace Hp
section
variable {x : Sh} {s t : Hs} {c : Cs} {pc : Pc}
/-- Units: lives go on, or end; none begins; the roots stay. -/
theorem CR.grow1 (h : CR x c pc s) (hb : s.ch ≤ 4611686018427387000) (hu : uniB c s = true) : Grows s (uniS x c s) ∧ (∀ z, takenZ (uniS x c s).cs z = true → takenZ s.cs z = true) ∧ (uniS x c s).r = s.r := by
  have hsame : ∀ {t : Hs}, t.cs = s.cs → Grows s t ∧ ∀ z, takenZ t.cs z = true → takenZ s.cs z = true := fun e => ⟨Grows.same e, fun z hz => by rw [← e]; exact hz⟩
  cases hp : pc.cu with
  | cons p L =>
    obtain ⟨_, _, b3, _, _⟩ := h.cut hb hp
    rw [b3]
    split
    · rename_i hv
      have ht : takenZ s.cs p.1 = true := by
        unfold vB at hv
        simp only [Bool.and_eq_true] at hv
        exact hv.1
      have e := cu_cs (x := x) s p.1
      exact ⟨(hsame e).1, (hsame e).2, (h.ok.cu_r ht).1⟩
    · exact ⟨(hsame rfl).1, (hsame rfl).2, rfl⟩
  | nil =>
    cases hq : Qu.popB s.q
    · cases hr : curRd pc s with
      | none =>
        have := (h.stop hp hq hr).1
        rw [hu] at this
        cases this
      | some r =>
        cases hm : moreR (stepR s r)
        · obtain ⟨_, _, b3, _⟩ := h.last hp hq hr hm
          rw [b3]
          exact ⟨(hsame (t := fgS s r.k) rfl).1, (hsame (t := fgS s r.k) rfl).2, rfl⟩
        · obtain ⟨_, _, b3, _⟩ := h.go hp hq hr hm
          rw [b3]
          exact ⟨(hsame rfl).1, (hsame rfl).2, rfl⟩
    · obtain ⟨_, _, b3, _, _⟩ := h.drain hb hp hq
      rw [b3]
      obtain ⟨g1, g2⟩ := Grows.one h.ok hq
      exact ⟨g1, g2, one_r s⟩
theorem CR.grow : ∀ (n : Nat) {c : Cs} {pc : Pc} {s : Hs}, CR x c pc s → s.ch + n ≤ 4611686018427387000 → Grows s (stS x n c s) ∧ (∀ z, takenZ (stS x n c s).cs z = true → takenZ s.cs z = true) ∧ (stS x n c s).r = s.r
  | 0, c, pc, s, _, _ => ⟨Grows.same rfl, fun _ h => h, rfl⟩
  | n + 1, c, pc, s, h, hb => by
    rcases h.unit (by omega) with ⟨b1, pc', b2, b3, _⟩ | ⟨b1, _, _⟩
    · obtain ⟨_, _, e3⟩ := Tch.st_succ (x := x) n b1
      obtain ⟨g1, g2, g3⟩ := h.grow1 (by omega) b1
      obtain ⟨k1, k2, k3⟩ := CR.grow n b2 (by omega)
      rw [e3]
      exact ⟨g1.trans k1 k2, fun z hz => g2 z (k2 z hz), by rw [k3, g3]⟩
    · obtain ⟨_, _, e3⟩ := Tch.st_stop (x := x) n b1
      rw [e3]
      exact ⟨Grows.same rfl, fun _ h => h, rfl⟩
end
end Hp
namespace Tn
open Hp Go.RowKit

/-- What holds of the words that were told: (word, is it held). -/
structure Told (x : Sh) (N : Int) (s : Hs) (l : List (Int × Bool)) : Prop where
  nd : (l.map Prod.fst).Nodup
  old : ∀ p ∈ l, ∃ i g, p.1 = wrd N i g ∧ inN i x.n = true ∧ 0 ≤ g ∧ g ≤ genZ s.cs i ∧ (g = genZ s.cs i → takenZ s.cs i = true) ∧ (p.2 = true ↔ g = genZ s.cs i ∧ i ∈ s.r)
  all : ∀ i ∈ s.r, (wrd N i (genZ s.cs i), true) ∈ l
/-- How the law keeps them. -/
def upT (l : List (Int × Bool)) (k w : Int) (a : An) : List (Int × Bool) :=
  if a.k = 2 ∧ k ≠ 9 then (if l.any (fun p => p.1 == a.w) = true then (if k = 2 ∧ a.e = 0 then l.map (fun p => if p.1 = w then (p.1, false) else p) else l).map (fun p => if p.1 = a.w then (p.1, true) else p) else (if k = 2 ∧ a.e = 0 then l.map (fun p => if p.1 = w then (p.1, false) else p) else l) ++ [(a.w, true)])
  else (if k = 2 ∧ a.e = 0 then l.map (fun p => if p.1 = w then (p.1, false) else p) else l)
section
variable {x : Sh} {N : Int} {s t : Hs} {l : List (Int × Bool)}
theorem cells_le (hm : x.may = true) {i : Int} (h : inN i x.n = true) : 0 ≤ i ∧ i ≤ 67108863 := by
  have h1 := inN_in h
  have h2 := (x.count hm).2
  omega
theorem wrd_inj (hm : x.may = true) {i j g g' : Int} (hi : inN i x.n = true) (hj : inN j x.n = true) (h0 : 0 ≤ g) (h1 : g ≤ 4294967295) (h2 : 0 ≤ g') (h3 : g' ≤ 4294967295) (h : wrd N i g = wrd N j g') : i = j ∧ g = g' := by
  have a1 := cells_le hm hi
  have a2 := cells_le hm hj
  unfold wrd at h
  omega
theorem Told.nil (h : s.r = []) : Told x N s [] := ⟨by simp, by simp, by rw [h]; simp⟩
/-- Lives go on, or end, and the roots stay (and are live). -/
theorem Told.lives (h : Told x N s l) (hg : Grows s t) (hb : ∀ z, takenZ t.cs z = true → takenZ s.cs z = true) (hr : t.r = s.r) (hl : ∀ i ∈ t.r, takenZ t.cs i = true) : Told x N t l := by
  refine ⟨h.nd, fun p hp => ?_, fun i hi => ?_⟩
  · obtain ⟨i, g, e, h1, h2, h3, h4, h5⟩ := h.old p hp
    have hgen := hg.gen i
    refine ⟨i, g, e, h1, h2, by omega, fun e1 => ?_, ?_⟩
    · have e2 : g = genZ s.cs i := by omega
      have h6 := h4 e2
      cases h7 : takenZ t.cs i
      · have := hg.die i h6 h7
        omega
      · rfl
    · rw [h5, hr]
      constructor
      · rintro ⟨e1, h6⟩
        have h7 := hl i (by rw [hr]; exact h6)
        rw [hg.life i (hb i h7) h7]
        exact ⟨e1, h6⟩
      · rintro ⟨e1, h6⟩
        have h7 := hl i (by rw [hr]; exact h6)
        rw [hg.life i (hb i h7) h7] at e1
        exact ⟨e1, h6⟩
  · have h7 := hl i hi
    rw [hr] at hi
    rw [hg.life i (hb i h7) h7]
    exact h.all i hi
/-- Cells and roots as they were. -/
theorem Told.same (h : Told x N s l) (hc : t.cs = s.cs) (hr : t.r = s.r) : Told x N t l := by
  refine ⟨h.nd, fun p hp => ?_, fun i hi => ?_⟩
  · rw [hc, hr]; exact h.old p hp
  · rw [hc]; rw [hr] at hi; exact h.all i hi
/-- A root is told: a live cell, told or not. -/
theorem Told.told (h : Told x N s l) (hgen : ∀ z, inN z x.n = true → 0 ≤ genZ s.cs z ∧ genZ s.cs z ≤ 4294967295) {i : Int} (hi : inN i x.n = true) (ht : takenZ s.cs i = true) (hc : t.cs = s.cs) (hr : t.r = Rt.addL i s.r ∨ i ∈ s.r ∧ t.r = s.r) :
    Told x N t (if l.any (fun p => p.1 == wrd N i (genZ s.cs i)) = true then l.map (fun p => if p.1 = wrd N i (genZ s.cs i) then (p.1, true) else p) else l ++ [(wrd N i (genZ s.cs i), true)]) := by
  have hrm : ∀ z, z ∈ t.r ↔ z ∈ s.r ∨ z = i := by
    intro z
    rcases hr with hr | ⟨h1, hr⟩
    · rw [hr, Rt.mem_addL]
      exact Or.comm
    · rw [hr]
      constructor
      · exact Or.inl
      · rintro (h2 | rfl)
        · exact h2
        · exact h1
  have hgi := hgen i hi
  have key : ∀ p ∈ l, p.1 ≠ wrd N i (genZ s.cs i) → ∃ j g, p.1 = wrd N j g ∧ inN j x.n = true ∧ 0 ≤ g ∧ g ≤ genZ t.cs j ∧ (g = genZ t.cs j → takenZ t.cs j = true) ∧ (p.2 = true ↔ g = genZ t.cs j ∧ j ∈ t.r) := by
    intro p hp hne
    obtain ⟨j, g, e, h1, h2, h3, h4, h5⟩ := h.old p hp
    rw [hc]
    refine ⟨j, g, e, h1, h2, h3, h4, ?_⟩
    rw [h5, hrm]
    constructor
    · rintro ⟨a, b⟩
      exact ⟨a, Or.inl b⟩
    · rintro ⟨a, b | rfl⟩
      · exact ⟨a, b⟩
      · rw [a] at e
        exact absurd e hne
  have knew : ∃ j g, wrd N i (genZ s.cs i) = wrd N j g ∧ inN j x.n = true ∧ 0 ≤ g ∧ g ≤ genZ t.cs j ∧ (g = genZ t.cs j → takenZ t.cs j = true) ∧ (true = true ↔ g = genZ t.cs j ∧ j ∈ t.r) := by
    rw [hc]
    exact ⟨i, _, rfl, hi, hgi.1, Int.le_refl _, fun _ => ht, fun _ => ⟨rfl, (hrm i).2 (Or.inr rfl)⟩, fun _ => rfl⟩
  by_cases ha : l.any (fun p => p.1 == wrd N i (genZ s.cs i)) = true
  · rw [if_pos ha]
    refine ⟨?_, fun p hp => ?_, fun z hz => ?_⟩
    · rw [List.map_map]
      have e : (Prod.fst ∘ fun p : Int × Bool => if p.1 = wrd N i (genZ s.cs i) then (p.1, true) else p) = Prod.fst := by
        funext p
        show (if p.1 = wrd N i (genZ s.cs i) then (p.1, true) else p).1 = p.1
        split <;> rfl
      rw [e]
      exact h.nd
    · obtain ⟨q, hq, rfl⟩ := List.mem_map.1 hp
      by_cases e : q.1 = wrd N i (genZ s.cs i)
      · rw [if_pos e, e]
        exact knew
      · rw [if_neg e]
        exact key q hq e
    · rw [hc]
      rcases (hrm z).1 hz with h1 | rfl
      · have h2 := h.all z h1
        refine List.mem_map.2 ⟨_, h2, ?_⟩
        split <;> rfl
      · rw [List.any_eq_true] at ha
        obtain ⟨q, hq, e⟩ := ha
        have e' : q.1 = wrd N z (genZ s.cs z) := by simpa using e
        exact List.mem_map.2 ⟨q, hq, by rw [if_pos e', e']⟩
  · rw [if_neg ha]
    have hno : ∀ p ∈ l, p.1 ≠ wrd N i (genZ s.cs i) := fun p hp e => ha (List.any_eq_true.2 ⟨p, hp, by simpa using e⟩)
    refine ⟨?_, fun p hp => ?_, fun z hz => ?_⟩
    · rw [List.map_append, List.nodup_append]
      refine ⟨h.nd, by simp, fun a ha' b hb => ?_⟩
      obtain ⟨q, hq, rfl⟩ := List.mem_map.1 ha'
      have : b = wrd N i (genZ s.cs i) := by simpa using hb
      rw [this]
      exact hno q hq
    · rcases List.mem_append.1 hp with hp | hp
      · exact key p hp (hno p hp)
      · obtain rfl : p = (wrd N i (genZ s.cs i), true) := by simpa using hp
        exact knew
    · rw [hc]
      rcases (hrm z).1 hz with h1 | rfl
      · exact List.mem_append_left _ (h.all z h1)
      · exact List.mem_append_right _ (by simp)
/-- A root is dropped. -/
theorem Told.drop (h : Told x N s l) (hm : x.may = true) (hgen : ∀ z, inN z x.n = true → 0 ≤ genZ s.cs z ∧ genZ s.cs z ≤ 4294967295) (hroot : ∀ z ∈ s.r, inN z x.n = true) {i : Int} (hi : inN i x.n = true) (hc : t.cs = s.cs) (hr : t.r = Rt.dropL i s.r) :
    Told x N t (l.map (fun p => if p.1 = wrd N i (genZ s.cs i) then (p.1, false) else p)) := by
  have hgi := hgen i hi
  refine ⟨?_, fun p hp => ?_, fun z hz => ?_⟩
  · rw [List.map_map]
    have e : (Prod.fst ∘ fun p : Int × Bool => if p.1 = wrd N i (genZ s.cs i) then (p.1, false) else p) = Prod.fst := by
      funext p
      show (if p.1 = wrd N i (genZ s.cs i) then (p.1, false) else p).1 = p.1
      split <;> rfl
    rw [e]
    exact h.nd
  · obtain ⟨q, hq, rfl⟩ := List.mem_map.1 hp
    obtain ⟨j, g, e, h1, h2, h3, h4, h5⟩ := h.old q hq
    have hgj := hgen j h1
    by_cases e2 : q.1 = wrd N i (genZ s.cs i)
    · rw [if_pos e2]
      obtain ⟨e3, e4⟩ := wrd_inj hm h1 hi h2 (by omega) hgi.1 hgi.2 (e.symm.trans e2)
      subst e3
      rw [hc]
      refine ⟨j, g, e, h1, h2, h3, h4, ?_⟩
      constructor
      · intro a; cases a
      · rintro ⟨_, b⟩
        rw [hr] at b
        exact absurd rfl (Rt.mem_dropL.1 b).2
    · rw [if_neg e2, hc]
      refine ⟨j, g, e, h1, h2, h3, h4, ?_⟩
      rw [h5, hr, Rt.mem_dropL]
      constructor
      · rintro ⟨a, b⟩
        refine ⟨a, b, fun e3 => e2 ?_⟩
        rw [e, e3, a, e3]
      · rintro ⟨a, b, _⟩
        exact ⟨a, b⟩
  · rw [hr] at hz
    obtain ⟨h1, h2⟩ := Rt.mem_dropL.1 hz
    rw [hc]
    refine List.mem_map.2 ⟨_, h.all z h1, ?_⟩
    rw [if_neg]
    intro e
    have hgz := hgen z (hroot z h1)
    exact h2 (wrd_inj hm (hroot z h1) hi hgz.1 hgz.2 hgi.1 hgi.2 e).1
/-- A cell that is not taken was never told in this life. -/
theorem Told.fresh (h : Told x N s l) (hm : x.may = true) (hgen : ∀ z, inN z x.n = true → 0 ≤ genZ s.cs z ∧ genZ s.cs z ≤ 4294967295) {i : Int} (hi : inN i x.n = true) (ht : takenZ s.cs i = false) : l.any (fun p => p.1 == wrd N i (genZ s.cs i)) = false := by
  rw [List.any_eq_false]
  intro p hp e
  obtain ⟨j, g, e1, h1, h2, h3, h4, _⟩ := h.old p hp
  have e2 : p.1 = wrd N i (genZ s.cs i) := by simpa using e
  have hgi := hgen i hi
  have hgj := hgen j h1
  obtain ⟨e3, e4⟩ := wrd_inj hm h1 hi h2 (by omega) hgi.1 hgi.2 (e1.symm.trans e2)
  subst e3
  rw [h4 e4] at ht
  cases ht
theorem Told.known (h : Told x N s l) {w : Int} (hw : nmE x N s w = 0) : l.any (fun p => p.1 == w) = true := by
  obtain ⟨h1, _, h3, h4⟩ := nm_yes.1 hw
  have h5 := h.all _ (Rt.hasB_iff.1 h4)
  rw [← h3, of_wrd h1] at h5
  exact List.any_eq_true.2 ⟨_, h5, by simp⟩
end
end Tn
end Go.Proofs.YtdhgpmndgcggfaaGreatDoor

namespace Go.Proofs.YtdhgpmndgcggfaaGreatDoor
open Go.RowKit
namespace Tch
section
variable {w w' w1 : World} {kb fb cb ab ac bs : Nat} {v : Nat → Value} {x : Sh} {cs : List St} {p : Nat → List Int} {L : List Int} {t t1 : Int} {ct : List Int} {vs : List (List Vl)} {L0 : List Int}
set_option maxRecDepth 100000 in
set_option maxHeartbeats 800000 in
theorem allocT (n : Int) (h : CeIn w kb fb cb v ab ac x bs cs p L t) (hr : RepTo x.n x bs L0 cs ct vs L) (hi : Inv x cs p) :
    Calls Tryz.prog 248 #[.pointer (some ⟨kb, 0, none⟩), .int .i64 n] w fun e w' => e = .returned (.tuple #[.int .i64 (tkV p n), .int .i64 (tkE p n)]) ∧
      ∃ v' t' L', CeIn w' kb fb cb v' ab ac x bs (tkC cs p n) (tkP p n) L' t' ∧ RepTo x.n x bs L0 (tkC cs p n) ct vs L' ∧ Step (ceFoot kb fb cb v ab ac) w (ceFoot kb fb cb v' ab ac) w' ∧ Tk t t' (5) := by
  have c0 := h.cells.1
  have hT := take_is n h.fr hi
  have hlen := h.len
  rcases tk_ok hi n with ⟨he, i, z, hv, hz, ht, hg, hC⟩ | ⟨he, hv, hC, hP⟩
  · have hil : i < cs.length := (List.getElem?_eq_some_iff.1 hz).1
    have hzi := hi.cell i z hz
    obtain ⟨d1, d2⟩ := hr.dead i z hz ht
    have hrl := hr.lay (i := i) (m' := x.n) (by omega) ⟨z.c, z.g, true⟩ (fun j hj => Or.inl hj)
    rw [set_same d1, set_same d2] at hrl
    have hz' : (cs.set i ⟨z.c, z.g, true⟩)[i]? = some ⟨z.c, z.g, true⟩ := by rw [set_any, if_pos rfl, if_pos hil]
    rw [he, hv, hC] at hT
    rw [he, hv, hC]
    have HR := Lib.hid hrl
    have HH := Lib.hid h
    have hll : (cs.set i ⟨z.c, z.g, true⟩).length = cs.length := by simp
    generalize tkP p n = P at *
    clear hrl d1 d2 hC he hv ht hz h hr hi
    go_enter Tryz.func248, Tryz.ntmps248
    go_wp2_with (first
      | (go_at_call 275; refine hT.mono ?_; rintro e w1 ⟨rfl, v', hF1, hO1, hat1⟩; have h1 := HH.out.list hF1 hO1 hat1 hll; have hl1 := HH.out.listOnly hO1 hat1)
      | (go_at_call 196; refine (layT i _ h1 hz' ⟨by simp only; omega, by simp only; omega⟩).mono ?_; rintro e w2 ⟨rfl, t2, h2, hO2, hT2⟩))
    go_ret2
    exact ⟨rfl, v', t2, _, h2, HR.out, ⟨hl1.1.trans (ar_foot (kb := kb) (fb := fb) (cb := cb) (v := v) hO2) (fun k hk => Or.inl hk), hl1.2⟩, hT2⟩
  · rw [hv, hC, hP] at hT
    rw [hv, hC, hP]
    have HR := Lib.hid hr
    have HH := Lib.hid h
    have he' : (tkE p n != 0) = true := by simp [bne, he]
    generalize tkE p n = E at *
    clear hC hP hv h hr hi
    go_enter Tryz.func248, Tryz.ntmps248
    go_wp2_with (go_at_call 275; refine hT.mono ?_; rintro e w1 ⟨rfl, v', hF1, hO1, hat1⟩; have h1 := HH.out.list hF1 hO1 hat1 rfl; have hl1 := HH.out.listOnly hO1 hat1)
    go_ret2
    exact ⟨rfl, v', _, _, h1, HR.out, hl1, Tk.refl (by omega)⟩
end
end Tch
namespace Hp
namespace Tch
attribute [local go_sem ↓] Go.wp_at_zero Go.wp_at_succ

section
variable {F0 : List Nat} {w0 w : World} {rs : List Part} {i : Nat} {kb ab : Nat} {x : Sh} {L0 : Wds} {cs : List St} {p : Nat → List Int} {ct : List Int} {vs : List (List Vl)} {T K : Int}
variable (h : Sy F0 w0 rs w) (hi : nth rs i = some (CER T K kb ab x L0 cs p ct vs))
include h hi
theorem c_alloc (n : Int) : Calls Tryz.prog 248 #[.pointer (some ⟨kb, 0, none⟩), .int .i64 n] w fun e w' => e = .returned (.tuple #[.int .i64 (tkV p n), .int .i64 (tkE p n)]) ∧ Sy F0 w0 (Hp.put rs i (CER T (K + 5) kb ab x L0 (tkC cs p n) (tkP p n) ct vs)) w' :=
  h.does hi fun F _ hF => by
    obtain ⟨fb, cb, v, ac, L, t, hC, hR, hI, hT, rfl⟩ := hF
    exact (Go.Proofs.YtdhgpmndgcggfaaGreatDoor.Tch.allocT n hC hR hI).mono fun e w' ⟨he, v', t', L', hC', hR', hO, hk⟩ => ⟨he, _, ⟨fb, cb, v', ac, L', t', hC', hR', hI.tk n, hT.trans hk, rfl⟩, hO⟩
end
section
variable {F0 : List Nat} {w0 w : World} {ts : List Part} {I : Ids} {x : Sh} {L0 : Wds} {s : Hs} {T K : Int}
variable (h : Sy F0 w0 (hp T K I x L0 s ts) w)
include h

set_option maxHeartbeats 400000 in
theorem p_used : Calls Tryz.prog 66 #[.pointer (some ⟨I.h, 0, none⟩)] w fun e w' => e = .returned (.int .i64 s.u) ∧ w = w' := by
  have c0 := h_ac h
  go_enter Tryz.func66, Tryz.ntmps66
  go_wp2_with fail
  refine (a_used h (i := 2) rfl).mono ?_
  rintro e w1 ⟨rfl, rfl⟩
  go_wp2_with fail
  go_ret
  exact ⟨rfl, rfl⟩
end
section
variable {F0 : List Nat} {w0 w : World} {ts : List Part} {I : Ids} {x : Sh} {L0 : Wds} {s : Hs} {T K : Int}

set_option maxRecDepth 100000 in
set_option maxHeartbeats 800000 in
theorem p_raise (h : Sy F0 w0 (hp T K I x L0 s ts) w) (n : Int) (hn : n ≤ 9223372036854775807) (he : liE x s n = 0) :
    Calls Tryz.prog 258 #[.pointer (some ⟨I.h, 0, none⟩), .int .i64 n] w fun e w' => e = .returned (.int .i64 (upE s n)) ∧ Sy F0 w0 (hp T (K + 2) I x L0 (if upE s n = 0 then { s with ct := upC s n } else s) ts) w' := by
  obtain ⟨l1, l2, l3⟩ := h_len h
  obtain ⟨q1, q2, q3, q4⟩ := c_rep h (i := 1) rfl
  have hli : ∃ (i : Nat) (z : St), n = i ∧ i < x.n ∧ s.cs[i]? = some z ∧ z.t = true := by
    unfold liE at he
    split at he
    · split at he
      · rename_i h2
        obtain ⟨i, z, rfl, hz, ht⟩ := taken_in h2
        exact ⟨i, z, rfl, by have := (List.getElem?_eq_some_iff.1 hz).1; omega, hz, ht⟩
      · cases he
    · cases he
  obtain ⟨i, z, rfl, hi, hz, ht⟩ := hli
  obtain ⟨c, hc⟩ : ∃ c, s.ct[i]? = some c := ⟨_, List.getElem?_eq_getElem (by omega)⟩
  have hcz := ctZ_at hc
  have hcb := q2 i c hc
  unfold upE upC
  rw [hcz]
  obtain ⟨g, hg⟩ : ∃ g, genZ s.cs i = g := ⟨_, rfl⟩
  have hh := Lib.hid (p_head h i hn hg hcz ((taken_at hz).trans ht) (hd_in l1 hi))
  clear q1 q2 q3 q4 he hg h
  by_cases hm : c = 2147483647
  · subst hm
    rw [if_pos rfl, if_neg (by decide)]
    clear hz hc hcz hcb
    go_enter Tryz.func258, Tryz.ntmps258
    go_wp2_with fail
    refine hh.out.mono ?_
    rintro e w1 ⟨rfl, h1⟩
    have h2 := h1.box6t #[.int .i64 g, .int .i64 2147483647, .bool true] 113
    clear hh h1
    go_wp2_with fail
    go_ret
    exact ⟨rfl, up h2.unbox6t (by omega)⟩
  · rw [if_neg hm, if_pos rfl]
    have hsc := sc_up (ct := s.ct) (c := c + 1) hz ht (by omega)
    have hw : wrap64 (c + 1) = c + 1 := wrap64_of (by unfold i64ok; omega)
    have hcl : c ≤ 2147483646 := by omega
    have hcl0 : 0 ≤ c := hcb.1
    have HS := Lib.hid hsc
    clear hz hc hcz hcb hsc
    go_enter Tryz.func258, Tryz.ntmps258
    go_wp2_with fail
    refine hh.out.mono ?_
    rintro e w1 ⟨rfl, h1⟩
    have h2 := h1.box6t #[.int .i64 g, .int .i64 c, .bool true] 113
    have c0 := h_k h2
    have H2 := Lib.hid h2
    have b1 := (h2.blk (i := 6) rfl).cell (i := 1) (v := .int .i64 c) rfl
    clear hh h1 h2
    go_wp2_with fail
    generalize w1.alloc (.cells #[.int .i64 g, .int .i64 c, .bool true] 113) = w2 at *
    go_still_tail 8, (by kernel_rfl)
    go_wp2_with fail
    refine (c_cnt H2.out.drew (i := 1) rfl i _ hn).mono ?_
    rw [HS.out.1, HS.out.2]
    rintro e w3 ⟨rfl, h3⟩
    clear c0 b1
    go_wp2_with fail
    go_ret
    exact ⟨rfl, up (Sy.unbox6t (K := K + 1 + 1) (s := { s with ct := s.ct.set i (c + 1) }) h3) (by omega)⟩
set_option maxRecDepth 100000 in
set_option maxHeartbeats 1600000 in
theorem p_fits (h : Sy F0 w0 (hp T K I x L0 s ts) w) (n k : Int) (y : Vl) (hn : n ≤ 9223372036854775807) (hy : 0 ≤ y.n) {e0 : Int} (he : fiE x s n k y = e0) :
    Calls Tryz.prog 259 #[.pointer (some ⟨I.h, 0, none⟩), .int .i64 n, .int .i64 k, .agg #[.int .i64 y.k, .int .u64 y.n]] w fun e w' => e = .returned (.int .i64 e0) ∧ Sy F0 w0 (hp T K I x L0 s ts) w' := by
  have h0 := h.box6t #[.int .i64 y.k, .int .u64 y.n] 56
  obtain ⟨m, hm⟩ : ∃ m, slX x n = m := ⟨_, rfl⟩
  subst he
  by_cases hk0 : k < 0
  · rw [fi_slot (by unfold inS inN; simp; omega)]
    clear h
    go_enter Tryz.func259, Tryz.ntmps259
    go_wp2_with fail
    go_ret
    exact ⟨rfl, up h0.unbox6t (by omega)⟩
  by_cases hk1 : (m : Int) ≤ k
  · rw [fi_slot (by unfold inS inN; rw [hm]; simp; omega)]
    clear h
    go_enter Tryz.func259, Tryz.ntmps259
    go_wp2_with fail
    refine (p_slots h0 n hn hm).mono ?_
    rintro e w1 ⟨rfl, h1⟩
    clear h0 hm
    go_wp2_with fail
    go_ret
    exact ⟨rfl, up h1.unbox6t (by omega)⟩
  have hS : inS x n k = true := by unfold inS inN; rw [hm]; simp; omega
  have hkm : k < (m : Int) := by omega
  cases hr : Wd.rightB y.k y.n
  · rw [fi_right hr]
    clear h hS
    go_enter Tryz.func259, Tryz.ntmps259
    go_wp2_with fail
    refine (p_slots h0 n hn hm).mono ?_
    rintro e w1 ⟨rfl, h1⟩
    obtain ⟨b0, b1⟩ := box_cells h1
    clear h0 hm
    go_wp2_with fail
    refine (h1.makes (Wd.right_any y.k y.n w1)).mono ?_
    rw [hr]
    rintro e w2 ⟨rfl, h2⟩
    clear b0 b1 h1
    go_wp2_with fail
    go_ret
    exact ⟨rfl, up h2.unbox6t (by omega)⟩
  have hok : y.ok := ⟨hy, hr⟩
  have HR := Lib.hid hr
  cases hp : ptB y
  · have HF := Lib.hid (fi_val (s := s) hS hr hp)
    have hpv : ptV y = 0 := by simp [ptV, hp]
    have HOK := Lib.hid hok
    have HPV := Lib.hid hpv
    have HP := Lib.hid hp
    clear h hS hr hok hpv hp
    go_enter Tryz.func259, Tryz.ntmps259
    go_wp2_with fail
    refine (p_slots h0 n hn hm).mono ?_
    rintro e w1 ⟨rfl, h1⟩
    obtain ⟨b0, b1⟩ := box_cells h1
    clear h0 hm
    go_wp2_with fail
    refine (h1.makes (Wd.right_any y.k y.n w1)).mono ?_
    rw [HR.out]
    rintro e w2 ⟨rfl, h2⟩
    clear b0 b1 h1
    obtain ⟨b0, b1⟩ := box_cells h2
    go_wp2_with fail
    refine (p_pointed h2 y HOK.out HPV.out HP.out).mono ?_
    rintro e w3 ⟨rfl, h3⟩
    clear b0 b1 h2
    have c0 := h_k h3
    obtain ⟨fb, c1, hT⟩ := c_taken h3 (i := 1) rfl
    cases ht : takenZ s.cs n
    · have HG := Lib.hid (HF.out.trans (if_neg (by rw [ht]; simp)))
      have hT := Lib.hid (ht ▸ hT n)
      clear ht HF
      go_wp2_with fail
      refine hT.out.mono ?_
      rintro e w4 ⟨rfl, rfl⟩
      go_wp2_with fail
      go_ret
      exact ⟨ret_int HG.out.symm, up h3.unbox6t (by omega)⟩
    · have HG := Lib.hid (HF.out.trans (if_pos ht))
      have hT := Lib.hid (ht ▸ hT n)
      clear ht HF
      go_wp2_with fail
      refine hT.out.mono ?_
      rintro e w4 ⟨rfl, rfl⟩
      go_wp2_with fail
      go_ret
      exact ⟨ret_int HG.out.symm, up h3.unbox6t (by omega)⟩
  · have hpv : ptV y = y.n := by simp [ptV, hp]
    have hsm := (ok_small hok hp).2
    have hyn : y.n ≤ 9223372036854775807 := by omega
    have HOK := Lib.hid hok
    have HPV := Lib.hid hpv
    have HP := Lib.hid hp
    have HS := Lib.hid hS
    clear h hS hr hok hpv hp hsm
    cases hh : inN y.n x.n
    · rw [fi_has HP.out hh]
      go_enter Tryz.func259, Tryz.ntmps259
      go_wp2_with fail
      refine (p_slots h0 n hn hm).mono ?_
      rintro e w1 ⟨rfl, h1⟩
      obtain ⟨b0, b1⟩ := box_cells h1
      clear h0 hm
      go_wp2_with fail
      refine (h1.makes (Wd.right_any y.k y.n w1)).mono ?_
      rw [HR.out]
      rintro e w2 ⟨rfl, h2⟩
      clear b0 b1 h1
      obtain ⟨b0, b1⟩ := box_cells h2
      go_wp2_with fail
      refine (p_pointed h2 y HOK.out HPV.out HP.out).mono ?_
      rintro e w3 ⟨rfl, h3⟩
      clear b0 b1 h2
      go_wp2_with fail
      refine (p_has h3 y.n hyn hh).mono ?_
      rintro e w4 ⟨rfl, h4⟩
      clear h3 hh
      go_wp2_with fail
      go_ret
      exact ⟨rfl, up h4.unbox6t (by omega)⟩
    · have HF := Lib.hid (fi_ptr (s := s) HS.out HR.out HP.out hh)
      go_enter Tryz.func259, Tryz.ntmps259
      go_wp2_with fail
      refine (p_slots h0 n hn hm).mono ?_
      rintro e w1 ⟨rfl, h1⟩
      obtain ⟨b0, b1⟩ := box_cells h1
      clear h0 hm
      go_wp2_with fail
      refine (h1.makes (Wd.right_any y.k y.n w1)).mono ?_
      rw [HR.out]
      rintro e w2 ⟨rfl, h2⟩
      clear b0 b1 h1
      obtain ⟨b0, b1⟩ := box_cells h2
      go_wp2_with fail
      refine (p_pointed h2 y HOK.out HPV.out HP.out).mono ?_
      rintro e w3 ⟨rfl, h3⟩
      clear b0 b1 h2
      go_wp2_with fail
      refine (p_has h3 y.n hyn hh).mono ?_
      rintro e w4 ⟨rfl, h4⟩
      clear h3 hh
      have c0 := h_k h4
      obtain ⟨fb, c1, hT⟩ := c_taken h4 (i := 1) rfl
      cases ht : takenZ s.cs n
      · have HG := Lib.hid (HF.out.trans (if_neg (by rw [ht]; simp)))
        have hT := Lib.hid (ht ▸ hT n)
        clear ht HF
        go_wp2_with fail
        refine hT.out.mono ?_
        rintro e w5 ⟨rfl, rfl⟩
        go_wp2_with fail
        go_ret
        exact ⟨ret_int HG.out.symm, up h4.unbox6t (by omega)⟩
      · have HG1 := Lib.hid (HF.out.trans (if_pos ht))
        have hT1 := Lib.hid (ht ▸ hT n)
        clear ht HF
        cases ht : takenZ s.cs y.n
        · have HG := Lib.hid (HG1.out.trans (if_neg (by rw [ht]; simp)))
          have hT2 := Lib.hid (ht ▸ hT y.n)
          clear ht hT HG1
          go_wp2_with fail
          refine hT1.out.mono ?_
          rintro e w5 ⟨rfl, rfl⟩
          go_wp2_with fail
          refine hT2.out.mono ?_
          rintro e w5 ⟨rfl, rfl⟩
          go_wp2_with fail
          go_ret
          exact ⟨ret_int HG.out.symm, up h4.unbox6t (by omega)⟩
        · have HG := Lib.hid (HG1.out.trans (if_pos ht))
          have hT2 := Lib.hid (ht ▸ hT y.n)
          clear ht hT HG1
          go_wp2_with fail
          refine hT1.out.mono ?_
          rintro e w5 ⟨rfl, rfl⟩
          go_wp2_with fail
          refine hT2.out.mono ?_
          rintro e w5 ⟨rfl, rfl⟩
          go_wp2_with fail
          go_ret
          exact ⟨ret_int HG.out.symm, up h4.unbox6t (by omega)⟩
set_option maxRecDepth 100000 in
set_option maxHeartbeats 1600000 in
theorem p_put (h : Sy F0 w0 (hp T K I x L0 s ts) w) (hok : Ok x s) (n k : Int) (y : Vl) (hn : n ≤ 9223372036854775807) (hy : 0 ≤ y.n) (hq : s.q.length ≤ 1000) {e0 : Int} (he : puE x s n k y = e0) :
    Calls Tryz.prog 208 #[.pointer (some ⟨I.h, 0, none⟩), .int .i64 n, .int .i64 k, .agg #[.int .i64 y.k, .int .u64 y.n]] w fun e w' => e = .returned (.int .i64 e0) ∧ Sy F0 w0 (hp T (K + 4) I x L0 (puS x s n k y) ts) w' := by
  have h0 := h.box6t #[.int .i64 y.k, .int .u64 y.n] 56
  subst he
  by_cases hf : fiE x s n k y = 0
  · obtain ⟨i, j, z, rfl, rfl, hi, hj, hz, ht, hr, hpt⟩ := fi_yes hok hf
    obtain ⟨o, hsl, hot⟩ := slot_of hok hi hj hz ht
    have hyok : y.ok := ⟨hy, hr⟩
    have HY := Lib.hid hyok
    have HOT := Lib.hid hot
    have HQ := Lib.hid hq
    have HF := Lib.hid hf
    have HYN := Lib.hid hy
    cases hb : ptB y
    · have e1 : puE x s i j y = 0 := by unfold puE; rw [if_pos hf, hb, if_neg (by simp)]
      have e2 : puS x s i j y = { rpS s i j y with ch := tick s.ch } := by unfold puS; rw [if_pos e1, hb]; rfl
      have HP := Lib.hid (And.intro (show ptV y = 0 by simp [ptV, hb]) hb)
      rw [e1, e2]
      clear hf hi hj hz ht hr hpt hot hyok hq hy hb e1 e2 h hok
      go_enter Tryz.func208, Tryz.ntmps208
      go_wp2_with fail
      refine (p_fits h0 i j y hn HYN.out HF.out).mono ?_
      rintro e w1 ⟨rfl, h1⟩
      obtain ⟨b0, b1⟩ := box_cells h1
      clear h0
      go_wp2_with fail
      refine (p_pointed h1 y HY.out HP.out.1 HP.out.2).mono ?_
      rintro e w2 ⟨rfl, h2⟩
      clear b0 b1 h1
      obtain ⟨b0, b1⟩ := box_cells h2
      go_wp2_with fail
      refine (p_replace h2 hsl y HY.out HQ.out HOT.out).mono ?_
      rintro e w3 ⟨rfl, h3⟩
      obtain ⟨c0, k0⟩ := h_ch h3
      have H4 := Lib.hid h3.tick6t.unbox6t
      have hc : (rpS s i j y).ch = s.ch := rfl
      rw [hc] at H4 c0
      clear b0 b1 h2 h3 hc
      go_wp2_with fail
      go_ret
      exact ⟨rfl, up H4.out (by omega)⟩
    · obtain ⟨m, v, hym, hm, hvm, hvt⟩ := hpt hb
      have hmn : (m : Int) ≤ 9223372036854775807 := by have := (x.count hok.may).2; omega
      have hlm : liE x s m = 0 := by
        unfold liE
        rw [if_pos (inN_t (by omega)), taken_at hvm, hvt, if_pos rfl]
      have HP := Lib.hid (And.intro (show ptV y = m by simp [ptV, hb, hym]) hb)
      by_cases hu : upE s y.n = 0
      · have e1 : puE x s i j y = 0 := by unfold puE; rw [if_pos hf, if_pos hb, hu]
        have e2 : puS x s i j y = { rpS { s with ct := upC s m } i j y with ch := tick s.ch } := by unfold puS; rw [if_pos e1, if_pos hb, hym]; rfl
        have hs2 : Slot x { s with ct := upC s m } i j o := ⟨hsl.hi, hsl.hj, hsl.live, hsl.row, hsl.ok⟩
        have HU := Lib.hid (show upE s m = 0 by rw [← hym]; exact hu)
        have HL := Lib.hid hlm
        rw [e1, e2]
        clear hf hi hj hz ht hr hpt hot hyok hq hy hb e1 e2 h hok hym hvm hvt hlm hu hsl
        go_enter Tryz.func208, Tryz.ntmps208
        go_wp2_with fail
        refine (p_fits h0 i j y hn HYN.out HF.out).mono ?_
        rintro e w1 ⟨rfl, h1⟩
        obtain ⟨b0, b1⟩ := box_cells h1
        clear h0
        go_wp2_with fail
        refine (p_pointed h1 y HY.out HP.out.1 HP.out.2).mono ?_
        rintro e w2 ⟨rfl, h2⟩
        clear b0 b1 h1
        go_wp2_with fail
        refine (p_raise h2 m hmn HL.out).mono ?_
        rw [if_pos HU.out, HU.out]
        rintro e w3 ⟨rfl, h3⟩
        obtain ⟨b0, b1⟩ := box_cells h3
        clear h2
        go_wp2_with fail
        refine (p_replace h3 hs2 y HY.out HQ.out HOT.out).mono ?_
        rintro e w4 ⟨rfl, h4⟩
        obtain ⟨c0, k0⟩ := h_ch h4
        have H4 := Lib.hid h4.tick6t.unbox6t
        have hc : (rpS { s with ct := upC s m } i j y).ch = s.ch := rfl
        rw [hc] at H4 c0
        clear b0 b1 h3 h4 hc
        go_wp2_with fail
        go_ret
        exact ⟨rfl, up H4.out (by omega)⟩
      · have hu8 := up8 hu
        have e1 : puE x s i j y = 8 := by unfold puE; rw [if_pos hf, if_pos hb, hu8]
        have e2 : puS x s i j y = s := by unfold puS; rw [e1, if_neg (by omega)]
        have HU := Lib.hid (show upE s m = 8 by rw [← hym]; exact hu8)
        have HL := Lib.hid hlm
        rw [e1, e2]
        clear hf hi hj hz ht hr hpt hot hyok hq hy hb e1 e2 h hok hym hvm hvt hlm hu hsl hu8
        go_enter Tryz.func208, Tryz.ntmps208
        go_wp2_with fail
        refine (p_fits h0 i j y hn HYN.out HF.out).mono ?_
        rintro e w1 ⟨rfl, h1⟩
        obtain ⟨b0, b1⟩ := box_cells h1
        clear h0
        go_wp2_with fail
        refine (p_pointed h1 y HY.out HP.out.1 HP.out.2).mono ?_
        rintro e w2 ⟨rfl, h2⟩
        clear b0 b1 h1
        go_wp2_with fail
        refine (p_raise h2 m hmn HL.out).mono ?_
        rw [HU.out, if_neg (by omega)]
        rintro e w3 ⟨rfl, h3⟩
        go_wp2_with fail
        go_ret
        exact ⟨rfl, up h3.unbox6t (by omega)⟩
  · have e1 : puE x s n k y = fiE x s n k y := by unfold puE; rw [if_neg hf]
    have e2 : puS x s n k y = s := by unfold puS; rw [if_neg (by rw [e1]; exact hf)]
    rw [e1, e2]
    obtain ⟨E, hE⟩ : ∃ E, fiE x s n k y = E := ⟨_, rfl⟩
    rw [hE] at hf ⊢
    clear e1 e2 h hok
    go_enter Tryz.func208, Tryz.ntmps208
    go_wp2_with fail
    refine (p_fits h0 n k y hn hy hE).mono ?_
    rintro e w1 ⟨rfl, h1⟩
    clear hE h0
    go_wp2_with fail
    go_ret
    exact ⟨rfl, up h1.unbox6t (by omega)⟩
set_option maxRecDepth 100000 in
set_option maxHeartbeats 1600000 in
theorem p_alloc (h : Sy F0 w0 (hp T K I x L0 s ts) w) (hok : Ok x s) (n : Int) :
    Calls Tryz.prog 199 #[.pointer (some ⟨I.h, 0, none⟩), .int .i64 n] w fun e w' => e = .returned (.tuple #[.int .i64 (alV x s n), .int .i64 (alE x s n)]) ∧ Sy F0 w0 (hp T (K + 6) I x L0 (alS x s n) ts) w' := by
  have HSZ := Lib.hid (size_any n w (c_lay h (i := 1) rfl))
  obtain ⟨S, hS⟩ : ∃ S, sizeZ n = S := ⟨_, rfl⟩
  have hSle := size_le n
  have hfit := hok.fit
  rcases al_cases hok n with ⟨h0, he⟩ | ⟨h0, h1, he⟩ | ⟨h0, h1, he, t1, t2, t3, t4⟩ | he
  · obtain ⟨e1, e2⟩ := al_err (x := x) (s := s) (n := n) (by omega)
    rw [e1, e2, he]
    rw [h0] at HSZ
    clear hS hSle hfit e1 e2 he h0
    go_enter Tryz.func199, Tryz.ntmps199
    go_wp2_with fail
    refine HSZ.out.mono ?_
    rintro e w1 ⟨rfl, rfl⟩
    go_wp2_with fail
    go_ret2
    exact ⟨rfl, up h (by omega)⟩
  · obtain ⟨e1, e2⟩ := al_err (x := x) (s := s) (n := n) (by omega)
    rw [e1, e2, he]
    rw [hS] at HSZ h0 h1 hSle
    have q1 : Ac.chE s.u x.q S = 7 := by unfold Ac.chE; rw [if_neg (by omega), if_pos h1]
    have q2 : Ac.chS s.u x.q S = s.u := by unfold Ac.chS; rw [if_neg (by omega), if_pos h1]
    have HC := Lib.hid (a_charge h (i := 2) rfl S (by unfold i64ok; omega) q1 q2)
    have c0 := h_ac h
    clear hS hSle hfit e1 e2 he h1 q1 q2 hok h
    go_enter Tryz.func199, Tryz.ntmps199
    go_wp2_with fail
    refine HSZ.out.mono ?_
    rintro e w1 ⟨rfl, rfl⟩
    go_wp2_with fail
    refine HC.out.mono ?_
    rintro e w2 ⟨rfl, h2⟩
    go_wp2_with fail
    go_ret2
    exact ⟨rfl, up h2 (by omega)⟩
  · obtain ⟨e1, e2⟩ := al_err (x := x) (s := s) (n := n) (by omega)
    rw [e1, e2, he]
    rw [hS] at HSZ h0 h1 hSle
    obtain ⟨f0, f1, f2⟩ := hfit
    have q1 : Ac.chE s.u x.q S = 0 := by unfold Ac.chE; rw [if_neg (by omega), if_neg h1]
    have q2 : Ac.chS s.u x.q S = s.u + S := by unfold Ac.chS; rw [if_neg (by omega), if_neg h1]
    have q3 : Ac.rfE (s.u + S) S = 0 := by unfold Ac.rfE; rw [if_neg (by omega), if_neg (by omega)]
    have q4 : Ac.rfS (s.u + S) S = s.u := by unfold Ac.rfS; rw [if_neg (by omega), if_neg (by omega)]; omega
    have HC := Lib.hid (a_charge h (i := 2) rfl S (by unfold i64ok; omega) q1 q2)
    have HT := Lib.hid (And.intro t1 (And.intro t2 (And.intro t3 (And.intro t4 (And.intro q3 q4)))))
    have c0 := h_ac h
    clear hS hSle e1 e2 he h1 q1 q2 hok h t1 t2 t3 t4 q3 q4 f0 f1 f2
    go_enter Tryz.func199, Tryz.ntmps199
    go_wp2_with fail
    refine HSZ.out.mono ?_
    rintro e w1 ⟨rfl, rfl⟩
    go_wp2_with fail
    refine HC.out.mono ?_
    rintro e w2 ⟨rfl, h2⟩
    have c0 := h_k (s := { s with u := s.u + S }) h2
    clear HC HSZ
    go_wp2_with fail
    refine (c_alloc h2 (i := 1) rfl n).mono ?_
    rw [HT.out.1, HT.out.2.1, HT.out.2.2.1, HT.out.2.2.2.1]
    rintro e w3 ⟨rfl, h3⟩
    have c0 := h_ac (s := { s with u := s.u + S }) h3
    clear h2
    go_wp2_with fail
    refine (a_refund h3 (i := 2) rfl S HT.out.2.2.2.2.1 HT.out.2.2.2.2.2).mono ?_
    rintro e w4 ⟨rfl, h4⟩
    clear h3
    go_wp2_with fail
    go_ret2
    exact ⟨rfl, up h4 (by omega)⟩
  · obtain ⟨i, z, a1, hi, hz, ht, hc, a3, a2, h0, h1⟩ := al_yes hok he
    have ev : alV x s n = i := by unfold alV; rw [if_pos he, a1]
    have hb := i_okB hok hi
    have hobk : Rt.okB (i : Int) = true := Rt.okB_yes (by omega) (by omega)
    have hadd : Rt.addS s.r i = Rt.addL i s.r := by simp [Rt.addS, hobk]
    have es : alS x s n = ⟨s.cs.set i ⟨z.c, z.g, true⟩, tkP s.p n, s.ct.set i 1, s.vs, s.u + sizeZ n, Rt.addL (i : Int) s.r, s.k, s.q, tick s.ch⟩ := by
      unfold alS
      rw [if_pos he, a1, a3, Int.toNat_natCast]
    rw [ev, es, he]
    have hz' : (s.cs.set i ⟨z.c, z.g, true⟩)[i]? = some ⟨z.c, z.g, true⟩ := by rw [at_set hz, if_pos rfl]
    have hsc := sc_up (ct := s.ct) (c := 1) hz' rfl (by omega)
    rw [hS] at HSZ h0 h1 hSle ⊢
    obtain ⟨f0, f1, f2⟩ := hfit
    have q1 : Ac.chE s.u x.q S = 0 := by unfold Ac.chE; rw [if_neg (by omega), if_neg h1]
    have q2 : Ac.chS s.u x.q S = s.u + S := by unfold Ac.chS; rw [if_neg (by omega), if_neg h1]
    have HC := Lib.hid (a_charge h (i := 2) rfl S (by unfold i64ok; omega) q1 q2)
    have HT := Lib.hid (And.intro a1 (And.intro a2 (And.intro a3 (And.intro hsc hadd))))
    have c0 := h_ac h
    have hi63 : (i : Int) ≤ 9223372036854775807 := by omega
    have hi64 : i64ok i := by unfold i64ok; omega
    have HI := Lib.hid hi64
    clear hS hSle ev es he h1 q1 q2 hok h a1 a2 a3 f0 f1 f2 hz ht hc hz' hsc hb hobk hadd hi64
    go_enter Tryz.func199, Tryz.ntmps199
    go_wp2_with fail
    refine HSZ.out.mono ?_
    rintro e w1 ⟨rfl, rfl⟩
    go_wp2_with fail
    refine HC.out.mono ?_
    rintro e w2 ⟨rfl, h2⟩
    have c1 := h_k (s := { s with u := s.u + S }) h2
    clear HC HSZ c0
    go_wp2_with fail
    refine (c_alloc h2 (i := 1) rfl n).mono ?_
    rw [HT.out.1, HT.out.2.1, HT.out.2.2.1]
    rintro e w3 ⟨rfl, h3⟩
    have c0 := h_k (s := ⟨s.cs.set i ⟨z.c, z.g, true⟩, tkP s.p n, s.ct, s.vs, s.u + S, s.r, s.k, s.q, s.ch⟩) h3
    clear h2 c1
    go_wp2_with fail
    refine (c_cnt h3 (i := 1) rfl i 1 hi63).mono ?_
    rw [HT.out.2.2.2.1.1, HT.out.2.2.2.1.2]
    rintro e w4 ⟨rfl, h4⟩
    have c1 := h_r (s := ⟨s.cs.set i ⟨z.c, z.g, true⟩, tkP s.p n, s.ct.set i 1, s.vs, s.u + S, s.r, s.k, s.q, s.ch⟩) h4
    clear h3 c0
    go_wp2_with fail
    refine (r_add h4 (i := 3) rfl i HI.out).mono ?_
    rw [HT.out.2.2.2.2]
    rintro e w5 ⟨rfl, h5⟩
    obtain ⟨c0, k0⟩ := h_ch (s := ⟨s.cs.set i ⟨z.c, z.g, true⟩, tkP s.p n, s.ct.set i 1, s.vs, s.u + S, Rt.addL (i : Int) s.r, s.k, s.q, s.ch⟩) h5
    have h6 := Sy.tick6t (s := ⟨s.cs.set i ⟨z.c, z.g, true⟩, tkP s.p n, s.ct.set i 1, s.vs, s.u + S, Rt.addL (i : Int) s.r, s.k, s.q, s.ch⟩) h5
    have H6 := Lib.hid h6
    clear h4 c1 h5 h6
    go_wp2_with fail
    go_ret2
    exact ⟨rfl, up H6.out (by omega)⟩
set_option maxRecDepth 100000 in
set_option maxHeartbeats 1600000 in
theorem p_drop (h : Sy F0 w0 (hp T K I x L0 s ts) w) (hok : Ok x s) (n : Int) (hn : i64ok n) (hq : s.q.length ≤ 1000) {e0 : Int} (he : drE x s n = e0) :
    Calls Tryz.prog 203 #[.pointer (some ⟨I.h, 0, none⟩), .int .i64 n] w fun e w' => e = .returned (.int .i64 e0) ∧ Sy F0 w0 (hp T K I x L0 (drS x s n) ts) w' := by
  have hn63 : n ≤ 9223372036854775807 := hn.2
  have HN := Lib.hid hn
  have HQ := Lib.hid hq
  subst he
  cases hb : inN n x.n
  · have e1 : drE x s n = 1 := by simp [drE, hb]
    have e2 : drS x s n = s := by unfold drS; rw [e1, if_neg (by omega)]
    rw [e1, e2]
    clear hn hq hok e1 e2
    go_enter Tryz.func203, Tryz.ntmps203
    go_wp2_with fail
    refine (p_has h n hn63 hb).mono ?_
    rintro e w1 ⟨rfl, h1⟩
    go_wp2_with fail
    go_ret
    exact ⟨rfl, up h1 (by omega)⟩
  · have hob := okB_in hok.may hb
    cases hh : Rt.hasB s.r n
    · have e1 : drE x s n = 9 := by simp [drE, hb, hh]
      have e2 : drS x s n = s := by unfold drS; rw [e1, if_neg (by omega)]
      have e3 : Rt.dropE s.r n = 9 := by simp [Rt.dropE, hob, hh]
      have e4 : Rt.dropS s.r n = s.r := Rt.dropS_not hh
      rw [e1, e2]
      have HE := Lib.hid (And.intro e3 e4)
      clear hn hq hok e1 e2 e3 e4 hob hh
      go_enter Tryz.func203, Tryz.ntmps203
      go_wp2_with fail
      refine (p_has h n hn63 hb).mono ?_
      rintro e w1 ⟨rfl, h1⟩
      have c0 := h_r h1
      clear hb h
      go_wp2_with fail
      refine (r_drop h1 (i := 3) rfl n HN.out HE.out.1).mono ?_
      rw [HE.out.2]
      rintro e w2 ⟨rfl, h2⟩
      go_wp2_with fail
      go_ret
      exact ⟨rfl, up h2 (by omega)⟩
    · have e1 : drE x s n = 0 := by simp [drE, hb, hh]
      have e2 : drS x s n = { s with r := Rt.dropL n s.r, q := s.q ++ [n], ch := tick s.ch } := by unfold drS; rw [e1, if_pos rfl]
      have e3 : Rt.dropE s.r n = 0 := by simp [Rt.dropE, hob, hh]
      have e4 : Rt.dropS s.r n = Rt.dropL n s.r := by simp [Rt.dropS, hob]
      have e5 : Qu.pushS s.q n = s.q ++ [n] := by simp [Qu.pushS, hob]
      rw [e1, e2]
      have HE := Lib.hid (And.intro e3 (And.intro e4 e5))
      clear hn hq hok e1 e2 e3 e4 e5 hob hh
      go_enter Tryz.func203, Tryz.ntmps203
      go_wp2_with fail
      refine (p_has h n hn63 hb).mono ?_
      rintro e w1 ⟨rfl, h1⟩
      have c0 := h_r h1
      clear hb h
      go_wp2_with fail
      refine (r_drop h1 (i := 3) rfl n HN.out HE.out.1).mono ?_
      rw [HE.out.2.1]
      rintro e w2 ⟨rfl, h2⟩
      have c1 := h_q (s := { s with r := Rt.dropL n s.r }) h2
      clear c0 h1
      go_wp2_with fail
      refine (q_push h2 (i := 5) rfl n HN.out HQ.out).mono ?_
      rw [HE.out.2.2]
      rintro e w3 ⟨rfl, h3⟩
      obtain ⟨c0, k0⟩ := h_ch (s := { s with r := Rt.dropL n s.r, q := s.q ++ [n] }) h3
      have H4 := Lib.hid (Sy.tick6t (s := { s with r := Rt.dropL n s.r, q := s.q ++ [n] }) h3)
      clear c1 h2 h3
      go_wp2_with fail
      go_ret
      exact ⟨rfl, up H4.out (by omega)⟩
set_option maxRecDepth 100000 in
set_option maxHeartbeats 1600000 in
theorem p_hold (h : Sy F0 w0 (hp T K I x L0 s ts) w) (n : Int) (hn : i64ok n) {e0 : Int} (he : hoE x s n = e0) :
    Calls Tryz.prog 206 #[.pointer (some ⟨I.h, 0, none⟩), .int .i64 n] w fun e w' => e = .returned (.int .i64 e0) ∧ Sy F0 w0 (hp T (K + 2) I x L0 (hoS x s n) ts) w' := by
  have hn63 : n ≤ 9223372036854775807 := hn.2
  have HN := Lib.hid hn
  subst he
  by_cases hl : liE x s n = 0
  · have hmay := h_may h
    have hin : inN n x.n = true := by
      unfold liE at hl
      split at hl
      · assumption
      · cases hl
    have hob := okB_in hmay hin
    cases hh : Rt.hasB s.r n
    · by_cases hu : upE s n = 0
      · have e1 : hoE x s n = 0 := by unfold hoE; rw [if_pos hl, hh, if_neg (by simp), hu]
        have e2 : hoS x s n = { s with ct := upC s n, r := Rt.addL n s.r, ch := tick s.ch } := by unfold hoS; rw [if_pos ⟨hl, hh, hu⟩]
        have e3 : Rt.addS s.r n = Rt.addL n s.r := by simp [Rt.addS, hob]
        rw [e1, e2]
        have HU := Lib.hid hu
        have HE := Lib.hid e3
        have HH := Lib.hid hh
        have HL := Lib.hid hl
        clear hn hmay hin hob hh hu e1 e2 e3 hl
        go_enter Tryz.func206, Tryz.ntmps206
        go_wp2_with fail
        refine (p_alive h n hn63 HL.out).mono ?_
        rintro e w1 ⟨rfl, h1⟩
        have c0 := h_r h1
        clear h
        go_wp2_with fail
        refine (r_has h1 (i := 3) rfl n HN.out HH.out).mono ?_
        rintro e w2 ⟨rfl, rfl⟩
        go_wp2_with fail
        refine (p_raise h1 n hn63 HL.out).mono ?_
        rw [if_pos HU.out, HU.out]
        rintro e w3 ⟨rfl, h3⟩
        have c1 := h_r (s := { s with ct := upC s n }) h3
        clear h1 c0
        go_wp2_with fail
        refine (r_add h3 (i := 3) rfl n HN.out).mono ?_
        rw [HE.out]
        rintro e w4 ⟨rfl, h4⟩
        obtain ⟨c0, k0⟩ := h_ch (s := { s with ct := upC s n, r := Rt.addL n s.r }) h4
        have H5 := Lib.hid (Sy.tick6t (s := { s with ct := upC s n, r := Rt.addL n s.r }) h4)
        clear h3 h4 c1
        go_wp2_with fail
        go_ret
        exact ⟨rfl, up H5.out (by omega)⟩
      · have hu8 : upE s n = 8 := by
          unfold upE at hu ⊢
          split
          · rfl
          · rename_i hq; rw [if_neg hq] at hu; exact absurd rfl hu
        have e1 : hoE x s n = 8 := by unfold hoE; rw [if_pos hl, hh, if_neg (by simp), hu8]
        have e2 : hoS x s n = s := by unfold hoS; rw [if_neg (fun hq => hu hq.2.2)]
        rw [e1, e2]
        have HU := Lib.hid hu8
        have HU0 := Lib.hid hu
        have HH := Lib.hid hh
        have HL := Lib.hid hl
        clear hn hmay hin hob hh hu hu8 e1 e2 hl
        go_enter Tryz.func206, Tryz.ntmps206
        go_wp2_with fail
        refine (p_alive h n hn63 HL.out).mono ?_
        rintro e w1 ⟨rfl, h1⟩
        have c0 := h_r h1
        clear h
        go_wp2_with fail
        refine (r_has h1 (i := 3) rfl n HN.out HH.out).mono ?_
        rintro e w2 ⟨rfl, rfl⟩
        go_wp2_with fail
        refine (p_raise h1 n hn63 HL.out).mono ?_
        rw [if_neg HU0.out, HU.out]
        rintro e w3 ⟨rfl, h3⟩
        go_wp2_with fail
        go_ret
        exact ⟨rfl, up h3 (by omega)⟩
    · have e1 : hoE x s n = 0 := by unfold hoE; rw [if_pos hl, if_pos hh]
      have e2 : hoS x s n = s := by unfold hoS; rw [if_neg (fun hq => by rw [hh] at hq; cases hq.2.1)]
      rw [e1, e2]
      have HH := Lib.hid hh
      have HL := Lib.hid hl
      clear hn hmay hin hob hh e1 e2 hl
      go_enter Tryz.func206, Tryz.ntmps206
      go_wp2_with fail
      refine (p_alive h n hn63 HL.out).mono ?_
      rintro e w1 ⟨rfl, h1⟩
      have c0 := h_r h1
      clear h
      go_wp2_with fail
      refine (r_has h1 (i := 3) rfl n HN.out HH.out).mono ?_
      rintro e w2 ⟨rfl, rfl⟩
      go_wp2_with fail
      go_ret
      exact ⟨rfl, up h1 (by omega)⟩
  · have e1 : hoE x s n = liE x s n := by unfold hoE; rw [if_neg hl]
    have e2 : hoS x s n = s := by unfold hoS; rw [if_neg (fun hq => hl hq.1)]
    rw [e1, e2]
    obtain ⟨E, hE⟩ : ∃ E, liE x s n = E := ⟨_, rfl⟩
    rw [hE] at hl ⊢
    clear hn e1 e2
    go_enter Tryz.func206, Tryz.ntmps206
    go_wp2_with fail
    refine (p_alive h n hn63 hE).mono ?_
    rintro e w1 ⟨rfl, h1⟩
    clear hE
    go_wp2_with fail
    go_ret
    exact ⟨rfl, up h1 (by omega)⟩
end
end Tch
end Hp
end Go.Proofs.YtdhgpmndgcggfaaGreatDoor

namespace Go.Proofs.YtdhgpmndgcggfaaGreatDoor
namespace Tn
open Hp Go.RowKit

def An.val (a : An) : Value := .agg #[.int .i64 a.e, .int .i64 a.k, .int .u64 a.w]
def u64ok (n : Int) : Prop := 0 ≤ n ∧ n ≤ 18446744073709551615
/-- The program's tenant: its own part, of its block, number, heap and collector. -/
def TnR (TP : Nat → Int → Ids → Nat → Part) (F0 : List Nat) (w0 : World) (T K : Int) (I : Ids) (x : Sh) (L0 : Wds) (N : Int) (tb cb : Nat) (c : Cs) (s : Hs) (ts : List Part) (w : World) : Prop :=
  (1 ≤ N ∧ N ≤ 16 ∧ s.ch ≤ 4611686018427300000 ∧ s.all.length ≤ 800) ∧ Tch.CoR F0 w0 T K I x L0 cb c s (TP tb N I cb :: ts) w
/-- Behind an act: no bounds are told. -/
def Beh (TP : Nat → Int → Ids → Nat → Part) (F0 : List Nat) (w0 : World) (T K : Int) (I : Ids) (x : Sh) (L0 : Wds) (N : Int) (tb cb : Nat) (c : Cs) (s : Hs) (ts : List Part) (w : World) : Prop :=
  Tch.CoR F0 w0 T K I x L0 cb c s (TP tb N I cb :: ts) w
/-! What is plain of the collector behind an act. -/
def Tact.ok (a : Tact) : Prop := (0 ≤ a.k ∧ a.k ≤ 255) ∧ u64ok a.w ∧ u64ok a.o ∧ i64ok a.n ∧ i64ok a.m
section
variable {x : Sh} {N : Int} {s t : Hs} {c : Cs} {pc : Pc}
/-- A heap's act, of a kind. -/
theorem al_do (n : Int) : doS x s ⟨0, 0, n, 0, 0⟩ = alS x s n := rfl
theorem ho_do (n : Int) : doS x s ⟨2, n, 0, 0, 0⟩ = hoS x s n := rfl
theorem dr_do (n : Int) : doS x s ⟨3, n, 0, 0, 0⟩ = drS x s n := rfl
theorem pu_do (n k : Int) (y : Vl) : doS x s ⟨4, n, k, y.k, y.n⟩ = puS x s n k y := rfl
theorem dn_do (n : Int) : doS x s ⟨6, 0, n, 0, 0⟩ = dnS x n.toNat s := rfl
theorem wd_i64 (d : Int) : i64ok (wdI d) := by unfold i64ok wdI; omega
theorem hact_ok {k a b e f : Int} (h0 : 0 ≤ k) (h1 : k ≤ 255) (h2 : i64ok a) (h3 : i64ok b) (h4 : i64ok e) (h5 : 0 ≤ f) (h6 : f ≤ 18446744073709551615) : Hact.ok ⟨k, a, b, e, f⟩ := ⟨h0, h1, h2, h3, h4, h5, h6⟩
/-- What an act leaves is as it was, or what a heap's act leaves, or what units leave. -/
theorem tn_cases (hr : ∀ n k, i64ok (gtV x s.cs s.vs n k).n) (a : Tact) (ha : a.ok) : tnC x s c a = c ∧ (tnS x N s c a = s ∨ ∃ b : Hact, b.ok ∧ tnS x N s c a = doS x s b) ∨ ∃ n : Nat, n ≤ 65536 ∧ tnS x N s c a = stS x n c s ∧ tnC x s c a = stC x n c s := by
  obtain ⟨_, h2, h3, h4, h5⟩ := ha
  have i0 : i64ok 0 := by unfold i64ok; omega
  by_cases k7 : a.k % 10 = 7 ∧ budB a.n = true
  · refine Or.inr ⟨a.n.toNat, ?_, ?_, ?_⟩
    · have := k7.2
      unfold budB at this
      simp only [Bool.and_eq_true, decide_eq_true_eq] at this
      omega
    · unfold tnS
      rw [if_neg (by omega), if_neg (by omega), if_neg (by omega), if_neg (by omega), if_neg (by omega), if_pos k7.1, if_pos k7.2]
    · unfold tnC
      rw [if_pos k7]
  refine Or.inl ⟨by unfold tnC; rw [if_neg k7], ?_⟩
  unfold tnS
  split
  · unfold dropS
    split
    · exact Or.inr ⟨⟨3, wdI a.w, 0, 0, 0⟩, hact_ok (by decide) (by decide) (wd_i64 _) (i0) (i0) (by decide) (by decide), (dr_do _).symm⟩
    · exact Or.inl rfl
  split
  · unfold loadS
    split
    · exact Or.inr ⟨⟨2, _, 0, 0, 0⟩, hact_ok (by decide) (by decide) (hr _ _) (i0) (i0) (by decide) (by decide), (ho_do _).symm⟩
    · exact Or.inl rfl
  split
  · unfold storeS
    split
    · exact Or.inr ⟨⟨4, wdI a.w, a.n, 1, a.o⟩, hact_ok (by decide) (by decide) (wd_i64 _) (h4) (by unfold i64ok; decide) (h3.1) (h3.2), (pu_do _ _ ⟨1, a.o⟩).symm⟩
    · exact Or.inl rfl
  split
  · unfold pointS
    split
    · split
      · exact Or.inr ⟨⟨4, wdI a.w, a.n, 0, 0⟩, hact_ok (by decide) (by decide) (wd_i64 _) (h4) (i0) (by decide) (by decide), (pu_do _ _ ⟨0, 0⟩).symm⟩
      · split
        · exact Or.inr ⟨⟨4, wdI a.w, a.n, 2, wdI a.o⟩, hact_ok (by decide) (by decide) (wd_i64 _) (h4) (by unfold i64ok; decide) (by unfold u64ok at h3; unfold wdI; omega) (by unfold u64ok at h3; unfold wdI; omega), (pu_do _ _ ⟨2, wdI a.o⟩).symm⟩
        · exact Or.inl rfl
    · exact Or.inl rfl
  split
  · split
    · exact Or.inr ⟨⟨6, 0, a.n, 0, 0⟩, hact_ok (by decide) (by decide) (i0) (h4) (i0) (by decide) (by decide), (dn_do _).symm⟩
    · exact Or.inl rfl
  split
  · rename_i e7
    split
    · rename_i e8
      exact absurd ⟨e7, e8⟩ k7
    · exact Or.inl rfl
  split
  · exact Or.inl rfl
  split
  · exact Or.inl rfl
  · exact Or.inr ⟨⟨0, 0, a.n, 0, 0⟩, hact_ok (by decide) (by decide) (i0) (h4) (i0) (by decide) (by decide), (al_do _).symm⟩
/-- Behind an act: the bounds. -/
theorem tn_bounds (h : CR x c pc s) (h1 : s.ch ≤ 4611686018427300000) (hf : s.all.length ≤ 800) (hr : ∀ n k, i64ok (gtV x s.cs s.vs n k).n) (a : Tact) (ha : a.ok) :
    (tnS x N s c a).ch ≤ s.ch + 65536 ∧ (tnS x N s c a).all.length ≤ s.all.length + 1 := by
  rcases tn_cases (N := N) hr a ha with ⟨_, e | ⟨b, hb, e⟩⟩ | ⟨n, hn, e, _⟩
  · rw [e]
    exact ⟨by omega, by omega⟩
  · rw [e]
    have h2 := (h.ok.do_ b hb).2
    exact ⟨by have := (h.do_ b hb (by omega) (by omega)).2; omega, h2⟩
  · rw [e]
    obtain ⟨k1, k2, _⟩ := h.st n (by omega)
    exact ⟨by omega, by omega⟩
end
end Tn
end Go.Proofs.YtdhgpmndgcggfaaGreatDoor

namespace Go.Proofs.YtdhgpmndgcggfaaGreatDoor
namespace Tn
open Hp Go.RowKit

section
variable {x : Sh} {N : Int} {s t : Hs} {c : Cs} {pc : Pc} {l : List (Int × Bool)}
theorem root_live (h : Ok x s) : ∀ i ∈ s.r, takenZ s.cs i = true := fun i hi => h.all_live (by simp [Hs.all, hi])
theorem root_in (h : Ok x s) : ∀ i ∈ s.r, inN i x.n = true := fun i hi => h.rng i (by simp [Hs.all, hi])
theorem gen_in (h : Ok x s) : ∀ z, inN z x.n = true → 0 ≤ genZ s.cs z ∧ genZ s.cs z ≤ 4294967295 := by
  intro z hz
  have h1 := inN_in hz
  obtain ⟨i, rfl⟩ : ∃ i : Nat, z = i := ⟨z.toNat, by omega⟩
  obtain ⟨y, hy⟩ : ∃ y, s.cs[i]? = some y := ⟨_, List.getElem?_eq_getElem (by rw [h.l1]; omega)⟩
  rw [gen_at hy]
  obtain ⟨_, _, h2, h3, _⟩ := h.inv.cell i y hy
  exact ⟨by omega, h3⟩
theorem vals_small (h : Ok x s) (n k : Int) : i64ok (gtV x s.cs s.vs n k).n := by
  have hnil : i64ok (Vl.nil).n := by show i64ok 0; unfold i64ok; omega
  unfold gtV
  split
  · unfold vlAt
    cases hr : s.vs[n.toNat]? with
    | none => simpa using hnil
    | some l =>
      show i64ok (l[k.toNat]?.getD Vl.nil).n
      cases hv : l[k.toNat]? with
      | none => exact hnil
      | some y =>
        obtain ⟨h1, h2⟩ := h.vok _ l hr y (List.mem_of_getElem? hv)
        show i64ok y.n
        unfold Wd.rightB Wd.nilB Wd.datB Wd.ptrB at h2
        simp only [Bool.or_eq_true, Bool.and_eq_true, decide_eq_true_eq, beq_iff_eq] at h2
        unfold i64ok
        omega
  · exact hnil
theorem Told.born (h : Told x N s l) (hg : ∀ j, genZ t.cs j = genZ s.cs j) (ht : ∀ j, takenZ s.cs j = true → takenZ t.cs j = true) (hr : t.r = s.r) : Told x N t l := by
  refine ⟨h.nd, fun p hp => ?_, fun i hi => ?_⟩
  · obtain ⟨i, g, e, h1, h2, h3, h4, h5⟩ := h.old p hp
    refine ⟨i, g, e, h1, h2, by rw [hg]; exact h3, fun e1 => ht i (h4 (by rw [hg] at e1; exact e1)), ?_⟩
    rw [h5, hg, hr]
  · rw [hg]
    rw [hr] at hi
    exact h.all i hi
theorem dn_r : ∀ (n : Nat) (s : Hs), (dnS x n s).r = s.r
  | 0, _ => rfl
  | n + 1, s => by
    rw [dnS]
    split
    · rw [dn_r n, one_r]
    · rfl
theorem pu_keeps (n k : Int) (y : Vl) : (puS x s n k y).cs = s.cs ∧ (puS x s n k y).r = s.r := by
  unfold puS
  split
  · exact ⟨rfl, rfl⟩
  · exact ⟨rfl, rfl⟩
theorem ho_keeps (n : Int) : (hoS x s n).cs = s.cs := by
  unfold hoS
  split <;> rfl
/-- No pointer, no drop: nothing is kept anew. -/
theorem up_same {k w : Int} {a : An} (h1 : ¬ (a.k = 2 ∧ k ≠ 9)) (h2 : ¬ (k = 2 ∧ a.e = 0)) : upT l k w a = l := by
  unfold upT
  rw [if_neg h1, if_neg h2]
theorem told_alloc (hok : Ok x s) (hT : Told x N s l) (n : Int) (k w : Int) (hk : k < 2) (hk0 : 0 ≤ k) :
    Told x N (alS x s n) (upT l k w (allocA x N s n)) ∧ ((allocA x N s n).k = 2 → l.any (fun p => p.1 == (allocA x N s n).w) = false) := by
  by_cases he : alE x s n = 0
  · obtain ⟨i, z, a1, hi, hz, ht, hc, a3, _, _, _⟩ := al_yes hok he
    have hin : inN (i : Int) x.n = true := inN_t (by omega)
    have hcs : (alS x s n).cs = s.cs.set i ⟨z.c, z.g, true⟩ := by unfold alS; rw [if_pos he]; exact a3
    have hr : (alS x s n).r = Rt.addL (i : Int) s.r := by unfold alS; rw [if_pos he, a1]
    have hv : alV x s n = i := by unfold alV; rw [if_pos he, a1]
    have hg : ∀ j, genZ (alS x s n).cs j = genZ s.cs j := fun j => by
      rw [hcs, gen_set hz]
      split
      · rename_i e
        rw [e, gen_at hz]
      · rfl
    have ht1 : takenZ (alS x s n).cs i = true := by
      rw [hcs]
      exact taken_at (z := ⟨z.c, z.g, true⟩) (by rw [at_set hz, if_pos rfl])
    have ht2 : ∀ j, takenZ s.cs j = true → takenZ (alS x s n).cs j = true := fun j hj => by
      rw [hcs]
      exact taken_set hz rfl hj
    have hA : allocA x N s n = ⟨0, 2, wrd N i (genZ s.cs i)⟩ := by
      unfold allocA ptrA
      rw [if_pos he, hv, hg]
    have hfr := hT.fresh hok.may (gen_in hok) hin (by rw [taken_at hz, ht])
    have hb : Told x N { alS x s n with r := s.r } l := hT.born hg ht2 rfl
    have hokA := (hok.al n).1
    have h2 := hb.told (t := alS x s n) (i := i) (gen_in (s := alS x s n) hokA) hin ht1 rfl (Or.inl hr)
    have e1 : genZ ({ alS x s n with r := s.r } : Hs).cs i = genZ s.cs i := hg i
    rw [e1, hfr] at h2
    rw [hA]
    refine ⟨?_, fun _ => hfr⟩
    unfold upT
    rw [if_pos ⟨rfl, by omega⟩, hfr, if_neg (by simp), if_neg (by omega)]
    simpa using h2
  · have hA : (allocA x N s n).k = 0 := by unfold allocA; rw [if_neg he]; rfl
    refine ⟨?_, fun e => by omega⟩
    rw [up_same (by omega) (by omega), al_no he]
    exact hT
theorem told_drop (hok : Ok x s) (hT : Told x N s l) (w : Int) : Told x N (dropS x N s w) (upT l 2 w (dropA x N s w)) := by
  by_cases h1 : nmE x N s w = 0
  · obtain ⟨m1, m2, m3, m4⟩ := nm_yes.1 h1
    have he : drE x s (wdI w) = 0 := by unfold drE; rw [if_pos m2, if_pos m4]
    have hA : dropA x N s w = ⟨0, 0, 0⟩ := by unfold dropA wrong; rw [if_pos h1, he]
    have hS : dropS x N s w = drS x s (wdI w) := by unfold dropS; rw [if_pos h1]
    have hw : wrd N (wdI w) (genZ s.cs (wdI w)) = w := by rw [← m3]; exact of_wrd m1
    have hcs : (drS x s (wdI w)).cs = s.cs := by unfold drS; rw [if_pos he]
    have hr : (drS x s (wdI w)).r = Rt.dropL (wdI w) s.r := by unfold drS; rw [if_pos he]
    have h2 := hT.drop (t := drS x s (wdI w)) hok.may (gen_in hok) (root_in hok) m2 hcs hr
    rw [hw] at h2
    rw [hA, hS]
    unfold upT
    rw [if_neg (by simp), if_pos ⟨rfl, rfl⟩]
    exact h2
  · have hA : (dropA x N s w).e ≠ 0 := by unfold dropA wrong; rw [if_neg h1]; exact h1
    have hK : (dropA x N s w).k = 0 := rfl
    have hS : dropS x N s w = s := by unfold dropS; rw [if_neg h1]
    rw [up_same (by omega) (fun e => hA e.2), hS]
    exact hT
theorem told_load (hok : Ok x s) (hT : Told x N s l) (w n k : Int) (hk : k = 3) : Told x N (loadS x N s w n) (upT l k w (loadA x N s w n)) := by
  subst hk
  by_cases h1 : slE x N s w n = 0
  · by_cases h2 : (gtV x s.cs s.vs (wdI w) n).k = 2
    · obtain ⟨i, hi⟩ : ∃ i, (gtV x s.cs s.vs (wdI w) n).n = i := ⟨_, rfl⟩
      have hS : loadS x N s w n = hoS x s i := by unfold loadS; rw [if_pos ⟨h1, h2⟩, hi]
      rw [hS]
      by_cases h3 : hoE x s i = 0
      · have hA : loadA x N s w n = ⟨0, 2, wrd N i (genZ s.cs i)⟩ := by
          unfold loadA ptrA
          rw [if_pos h1, if_pos h2, hi, if_pos h3, ho_keeps]
        have hli : liE x s i = 0 := by
          unfold hoE at h3
          split at h3
          · assumption
          · rename_i hh; exact absurd h3 hh
        obtain ⟨hin, htk⟩ : inN i x.n = true ∧ takenZ s.cs i = true := by
          unfold liE at hli
          split at hli
          · split at hli
            · exact ⟨by assumption, by assumption⟩
            · cases hli
          · cases hli
        have hr : (hoS x s i).r = Rt.addL i s.r ∨ i ∈ s.r ∧ (hoS x s i).r = s.r := by
          unfold hoS
          split
          · exact Or.inl rfl
          · rename_i hh
            refine Or.inr ⟨?_, rfl⟩
            rw [← Rt.hasB_iff]
            unfold hoE at h3
            rw [if_pos hli] at h3
            split at h3
            · assumption
            · rename_i h4
              exact absurd ⟨hli, by simpa using h4, h3⟩ hh
        have h4 := hT.told (t := hoS x s i) (gen_in hok) hin htk (ho_keeps i) hr
        rw [hA]
        unfold upT
        rw [if_pos ⟨rfl, by omega⟩]
        simp only
        exact h4
      · have hK : (loadA x N s w n).k = 0 := by unfold loadA; rw [if_pos h1, if_pos h2, hi, if_neg h3]; rfl
        rw [up_same (by omega) (by omega), ho_no h3]
        exact hT
    · have hK : (loadA x N s w n).k ≠ 2 := by unfold loadA; rw [if_pos h1, if_neg h2]; exact h2
      have hS : loadS x N s w n = s := by unfold loadS; rw [if_neg (fun e => h2 e.2)]
      rw [up_same (fun e => hK e.1) (by omega), hS]
      exact hT
  · have hK : (loadA x N s w n).k = 0 := by unfold loadA; rw [if_neg h1]; rfl
    have hS : loadS x N s w n = s := by unfold loadS; rw [if_neg (fun e => h1 e.1)]
    rw [up_same (by omega) (by omega), hS]
    exact hT
/-- Behind an act: what the law keeps is right; what an Alloc tells was never told. -/
theorem told_step (h : CR x c pc s) (hch : s.ch ≤ 4611686018427300000) (hT : Told x N s l) (a : Tact) :
    Told x N (tnS x N s c a) (upT l (a.k % 10) a.w (tnA x N s c a)) ∧ ((tnA x N s c a).k = 2 → a.k % 10 < 2 → l.any (fun p => p.1 == (tnA x N s c a).w) = false) := by
  have hok := h.ok
  unfold tnS tnA
  by_cases k2 : a.k % 10 = 2
  · simp only [if_pos k2]
    rw [k2]
    exact ⟨told_drop hok hT a.w, fun _ e => by omega⟩
  simp only [if_neg k2]
  by_cases k3 : a.k % 10 = 3
  · simp only [if_pos k3]
    exact ⟨told_load hok hT a.w a.n _ k3, fun _ e => by omega⟩
  simp only [if_neg k3]
  by_cases k4 : a.k % 10 = 4
  · simp only [if_pos k4]
    refine ⟨?_, fun _ e => by omega⟩
    rw [up_same (fun e => by have : (storeA x N s a.w a.n a.o).k = 0 := rfl; omega) (fun e => k2 e.1)]
    unfold storeS
    split
    · exact hT.same (pu_keeps _ _ _).1 (pu_keeps _ _ _).2
    · exact hT
  simp only [if_neg k4]
  by_cases k5 : a.k % 10 = 5
  · simp only [if_pos k5]
    refine ⟨?_, fun _ e => by omega⟩
    rw [up_same (fun e => by have : (pointA x N s a.w a.n a.o).k = 0 := rfl; omega) (fun e => k2 e.1)]
    unfold pointS
    split
    · split
      · exact hT.same (pu_keeps _ _ _).1 (pu_keeps _ _ _).2
      · split
        · exact hT.same (pu_keeps _ _ _).1 (pu_keeps _ _ _).2
        · exact hT
    · exact hT
  simp only [if_neg k5]
  by_cases k6 : a.k % 10 = 6
  · simp only [if_pos k6]
    by_cases hb : budB a.n = true
    · simp only [if_pos hb]
      refine ⟨?_, fun _ e => by omega⟩
      rw [up_same (fun e => by have : (datum (dnN x a.n.toNat s)).k = 1 := rfl; omega) (fun e => k2 e.1)]
      obtain ⟨g1, g2⟩ := Grows.dn a.n.toNat hok
      exact hT.lives g1 g2 (dn_r _ _) (root_live (hok.dn _).1)
    · simp only [if_neg hb]
      refine ⟨?_, fun _ e => by omega⟩
      rw [up_same (fun e => by have : (wrong 3).k = 0 := rfl; omega) (fun e => k2 e.1)]
      exact hT
  simp only [if_neg k6]
  by_cases k7 : a.k % 10 = 7
  · simp only [if_pos k7]
    by_cases hb : budB a.n = true
    · simp only [if_pos hb]
      refine ⟨?_, fun _ e => by omega⟩
      rw [up_same (fun e => by have : (datum (stN x a.n.toNat c s)).k = 1 := rfl; omega) (fun e => k2 e.1)]
      have hn : a.n.toNat ≤ 65536 := by
        unfold budB at hb
        simp only [Bool.and_eq_true, decide_eq_true_eq] at hb
        omega
      obtain ⟨g1, g2, g3⟩ := CR.grow a.n.toNat h (by omega)
      obtain ⟨_, _, pc', h'⟩ := h.st a.n.toNat (by omega)
      exact hT.lives g1 g2 g3 (root_live h'.ok)
    · simp only [if_neg hb]
      refine ⟨?_, fun _ e => by omega⟩
      rw [up_same (fun e => by have : (wrong 3).k = 0 := rfl; omega) (fun e => k2 e.1)]
      exact hT
  simp only [if_neg k7]
  by_cases k8 : a.k % 10 = 8
  · simp only [if_pos k8]
    refine ⟨?_, fun _ e => by omega⟩
    rw [up_same (fun e => by have : (datum s.u).k = 1 := rfl; omega) (fun e => k2 e.1)]
    exact hT
  simp only [if_neg k8]
  by_cases k9 : a.k % 10 = 9
  · simp only [if_pos k9]
    refine ⟨?_, fun _ e => by omega⟩
    rw [up_same (fun e => e.2 k9) (fun e => k2 e.1)]
    exact hT
  simp only [if_neg k9]
  have hlt : a.k % 10 < 2 := by omega
  obtain ⟨h1, h2⟩ := told_alloc hok hT a.n (a.k % 10) a.w hlt (by omega)
  exact ⟨h1, fun e _ => h2 e⟩
end
end Tn
end Go.Proofs.YtdhgpmndgcggfaaGreatDoor

namespace Go.Proofs.YtdhgpmndgcggfaaGreatDoor
namespace Tn
open Hp Go.RowKit

section
variable {x : Sh} {s : Hs}
theorem gen_bds (h : Ok x s) (z : Int) : 0 ≤ genZ s.cs z ∧ genZ s.cs z ≤ 4294967295 := by
  cases hz : inN z x.n
  · have h1 : genZ s.cs z = 0 := by unfold genZ; rw [h.l1, hz]; rfl
    omega
  · exact gen_in h z hz
theorem vals_pos (h : Ok x s) (n k : Int) : 0 ≤ (gtV x s.cs s.vs n k).n := by
  have hnil : 0 ≤ (Vl.nil).n := by decide
  unfold gtV
  split
  · unfold vlAt
    cases hr : s.vs[n.toNat]? with
    | none => simpa using hnil
    | some l =>
      show 0 ≤ (l[k.toNat]?.getD Vl.nil).n
      cases hv : l[k.toNat]? with
      | none => exact hnil
      | some y =>
        obtain ⟨h1, h2⟩ := h.vok _ l hr y (List.mem_of_getElem? hv)
        show 0 ≤ y.n
        unfold Wd.rightB Wd.nilB Wd.datB Wd.ptrB at h2
        simp only [Bool.or_eq_true, Bool.and_eq_true, decide_eq_true_eq, beq_iff_eq] at h2
        omega
  · exact hnil
theorem ho_in {n : Int} (hok : Ok x s) (h : hoE x s n = 0) : 0 ≤ n ∧ n ≤ 67108863 := by
  have h1 : liE x s n = 0 := by
    unfold hoE at h
    split at h
    · assumption
    · exact h
  cases hin : inN n x.n
  · unfold liE at h1
    rw [hin] at h1
    simp at h1
  · have := inN_in hin
    have := (Sh.wd_is hok.may).2.2
    omega
end
end Tn
end Go.Proofs.YtdhgpmndgcggfaaGreatDoor
