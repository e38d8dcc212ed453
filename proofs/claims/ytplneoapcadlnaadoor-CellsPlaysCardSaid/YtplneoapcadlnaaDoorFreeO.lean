/- One list, by one state; alive. -/
import Derived.Test.YtplneoapcadlnaaDoorFreeN
namespace Go.Proofs.YtplneoapcadlnaaDoor
open Go.RowKit

/-- A list of the program's that was made since w0. -/
def P1 (w0 : World) (hb : Nat) (x : Sh) (cs : List St) (p : Nat → List Int) (w : World) : Prop :=
  ∃ cb v, FrIn w hb cb v cs p ∧ Inv x cs p ∧ (∀ g ∈ frFoot hb cb v, w0.heap.size ≤ g) ∧ Lay w ∧ Lay w0 ∧ Below w0.heap.size w0 w
section
variable {w0 w w' : World} {hb : Nat} {x : Sh} {cs : List St} {p : Nat → List Int}
theorem P1.more (h : P1 w0 hb x cs p w) (hb' : Below w.heap.size w w') : P1 w0 hb x cs p w' := by
  obtain ⟨cb, v, hF, hI, hlo, hl, hl0, hB⟩ := h
  exact ⟨cb, v, hF.more hb', hI, hlo, hl.below hb', hl0, below_more hB hb'⟩
theorem p1_gen (n : Int) (h : P1 w0 hb x cs p w) : Calls Tryd.prog 67 #[.pointer (some ⟨hb, 0, none⟩), .int .i64 n] w fun e w' => e = .returned (.int .i64 (genZ cs n)) ∧ w = w' := by
  obtain ⟨cb, v, hF, _⟩ := h
  exact gen_any n hF
theorem p1_taken (n : Int) (h : P1 w0 hb x cs p w) : Calls Tryd.prog 52 #[.pointer (some ⟨hb, 0, none⟩), .int .i64 n] w fun e w' => e = .returned (.bool (takenZ cs n)) ∧ w = w' := by
  obtain ⟨cb, v, hF, _⟩ := h
  exact taken_any n hF
theorem p1_free (n : Int) (h : P1 w0 hb x cs p w) : Calls Tryd.prog 53 #[.pointer (some ⟨hb, 0, none⟩), .int .i64 n] w fun e w' => e = .returned (.int .i64 (freeZ p n)) ∧ w = w' := by
  obtain ⟨cb, v, hF, _⟩ := h
  exact free_any n hF
theorem p1_retired (n : Int) (h : P1 w0 hb x cs p w) : Calls Tryd.prog 54 #[.pointer (some ⟨hb, 0, none⟩), .int .i64 n] w fun e w' => e = .returned (.int .i64 (retZ cs n)) ∧ P1 w0 hb x cs p w' := by
  have h' := h
  obtain ⟨cb, v, hF, _⟩ := h
  exact (retired_any n hF).mono fun e w' ⟨he, hb⟩ => ⟨he, h'.more hb⟩
theorem p1_take (n : Int) (h : P1 w0 hb x cs p w) : Calls Tryd.prog 61 #[.pointer (some ⟨hb, 0, none⟩), .int .i64 n] w fun e w' => e = .returned (.tuple #[.int .i64 (tkV p n), .int .i64 (tkE p n)]) ∧ P1 w0 hb x (tkC cs p n) (tkP p n) w' := by
  obtain ⟨cb, v, hF, hI, hlo, hl, hl0, hB⟩ := h
  refine (take_is n hF hI).mono fun e w' ⟨he, v', hF', ho, hat⟩ => ?_
  have hB' : Below w0.heap.size w0 w' := hB.trans (ho.below hB.size hlo)
  exact ⟨he, cb, v', hF', hI.tk n, fun g hg => (hat g hg).elim (hlo g) (fun h => Nat.le_trans hB.size h), hl0.below hB', hl0, hB'⟩
theorem p1_give (n : Int) (h : P1 w0 hb x cs p w) : Calls Tryd.prog 62 #[.pointer (some ⟨hb, 0, none⟩), .int .i64 n] w fun e w' => e = .returned (.tuple #[.bool (gvLast cs n), .int .i64 (gvE cs n)]) ∧ P1 w0 hb x (gvC cs n) (gvP cs p n) w' := by
  obtain ⟨cb, v, hF, hI, hlo, hl, hl0, hB⟩ := h
  refine (give_is n hF hI).mono fun e w' ⟨he, v', hF', ho, hat⟩ => ?_
  have hB' : Below w0.heap.size w0 w' := hB.trans (ho.below hB.size hlo)
  exact ⟨he, cb, v', hF', hI.gv n, fun g hg => (hat g hg).elim (hlo g) (fun h => Nat.le_trans hB.size h), hl0.below hB', hl0, hB'⟩
end
/-- A list at first. -/
def c0 (x : Sh) : List St := csTo x.cz x.s x.n x.n
def p0 (x : Sh) : Nat → List Int := fun k => wholeL (c0 x) k x.n
theorem p1_new (x : Sh) (w : World) (hl : Lay w) (hm : x.may = true) :
    Calls Tryd.prog 31 #[.agg #[.int .i64 x.a, .int .i64 x.b, .int .i64 x.c, .int .i64 x.q, .int .i64 x.s]] w fun e w' => ∃ hb, e = .returned (.tuple #[.pointer (some ⟨hb, 0, none⟩), .int .i64 0]) ∧ P1 w hb x (c0 x) (p0 x) w' :=
  (newL_any x w hl hm).mono fun _ _ ⟨hb, cb, v, he, hF, hlo, hB⟩ => ⟨hb, he, cb, v, hF, (sim_start x hm).inv, fun g hg => Nat.le_of_lt (hlo g hg), hl.below hB, hl, hB⟩

/-! alive. -/
def aX : Sh := ⟨2, 1, 0, 0, 4294967293⟩
def aC : Nat → List St
  | 0 => [⟨0, 4294967293, false⟩, ⟨0, 4294967293, false⟩, ⟨1, 4294967293, false⟩]
  | 1 => [⟨0, 4294967293, true⟩, ⟨0, 4294967293, false⟩, ⟨1, 4294967293, false⟩]
  | 2 => [⟨0, 4294967293, true⟩, ⟨0, 4294967293, true⟩, ⟨1, 4294967293, false⟩]
  | 3 => [⟨0, 4294967294, false⟩, ⟨0, 4294967293, true⟩, ⟨1, 4294967293, false⟩]
  | 4 => [⟨0, 4294967294, true⟩, ⟨0, 4294967293, true⟩, ⟨1, 4294967293, false⟩]
  | _ => [⟨0, 4294967295, false⟩, ⟨0, 4294967293, true⟩, ⟨1, 4294967293, false⟩]
def aQ : Nat → List Int
  | 0 => [1, 0]
  | 1 => [1]
  | 3 => [0]
  | _ => []
def aP (j : Nat) : Nat → List Int := fun k => match k with | 0 => aQ j | 1 => [2] | _ => []
def AS (w0 : World) (hb j : Nat) (w : World) : Prop := ∃ p, (∀ k, k < 3 → p k = aP j k) ∧ P1 w0 hb aX (aC j) p w
theorem c0_aX : c0 aX = aC 0 := by
  have h0 : classZ 2 1 0 0 4294967293 0 = 0 := by decide +kernel
  have h1 : classZ 2 1 0 0 4294967293 1 = 0 := by decide +kernel
  have h2 : classZ 2 1 0 0 4294967293 2 = 1 := by decide +kernel
  have hn : aX.n = 3 := rfl
  unfold c0
  rw [hn]
  show csTo (fun y => classZ 2 1 0 0 4294967293 y) 4294967293 3 3 = _
  simp [csTo, List.range_succ, aC, h0, h1, h2]
theorem p0_aX : ∀ k, k < 3 → p0 aX k = aP 0 k := by
  intro k hk
  have hn : aX.n = 3 := rfl
  have e : p0 aX k = wholeL (aC 0) k 3 := by unfold p0; rw [c0_aX, hn]
  rw [e]
  match k, hk with
  | 0, _ => decide +kernel
  | 1, _ => decide +kernel
  | 2, _ => decide +kernel
section
variable {w0 w : World} {hb : Nat}
theorem AS.more {j : Nat} {w' : World} (h : AS w0 hb j w) (hb' : Below w.heap.size w w') : AS w0 hb j w' := by
  obtain ⟨p, hp, h⟩ := h
  exact ⟨p, hp, h.more hb'⟩
theorem as_new (w : World) (hl : Lay w) : Calls Tryd.prog 31 #[.agg #[.int .i64 2, .int .i64 1, .int .i64 0, .int .i64 0, .int .i64 4294967293]] w fun e w' => ∃ hb, e = .returned (.tuple #[.pointer (some ⟨hb, 0, none⟩), .int .i64 0]) ∧ AS w hb 0 w' :=
  (p1_new aX w hl (by decide +kernel)).mono fun _ _ ⟨hb, he, h⟩ => ⟨hb, he, p0 aX, p0_aX, by rw [← c0_aX]; exact h⟩
theorem as_tk {j : Nat} (j' : Nat) (v e : Int) (hv : (aQ j).getLast?.getD 0 = v) (he : (if (aQ j).isEmpty = true then (8 : Int) else 0) = e) (hc : (match (aQ j).getLast? with | some i => setT (aC j) i.toNat | none => aC j) = aC j') (hq : (aQ j).dropLast = aQ j') (h : AS w0 hb j w) :
    Calls Tryd.prog 61 #[.pointer (some ⟨hb, 0, none⟩), .int .i64 0] w fun e' w' => e' = .returned (.tuple #[.int .i64 v, .int .i64 e]) ∧ AS w0 hb j' w' := by
  obtain ⟨p, hp, h⟩ := h
  have h0 : p 0 = aQ j := hp 0 (by omega)
  have k1 : tkV p 0 = v := by rw [← hv, ← h0]; rfl
  have k2 : tkE p 0 = e := by rw [← he, ← h0]; rfl
  have k3 : tkC (aC j) p 0 = aC j' := by rw [← hc, ← h0]; rfl
  have k4 : tkP p 0 = upd p 0 (aQ j') := by rw [← hq, ← h0]; rfl
  refine (p1_take 0 h).mono fun e' w' ⟨he', h'⟩ => ?_
  rw [k1, k2] at he'
  rw [k3, k4] at h'
  refine ⟨he', _, fun k hk => ?_, h'⟩
  match k, hk with
  | 0, _ => rfl
  | 1, _ => exact hp 1 (by omega)
  | 2, _ => exact hp 2 (by omega)
theorem as_gv {j : Nat} (j' : Nat) (n : Int) (b : Bool) (e : Int) (hl : gvLast (aC j) n = b) (he : gvE (aC j) n = e) (hc : gvC (aC j) n = aC j') (hq : (if (gvOk (aC j) n && !gvLast (aC j) n) = true then aQ j ++ [n] else aQ j) = aQ j') (hs : (stAt (aC j) n).c = 0) (h : AS w0 hb j w) :
    Calls Tryd.prog 62 #[.pointer (some ⟨hb, 0, none⟩), .int .i64 n] w fun e' w' => e' = .returned (.tuple #[.bool b, .int .i64 e]) ∧ AS w0 hb j' w' := by
  obtain ⟨p, hp, h⟩ := h
  have h0 : p 0 = aQ j := hp 0 (by omega)
  refine (p1_give n h).mono fun e' w' ⟨he', h'⟩ => ?_
  rw [hl, he] at he'
  rw [hc] at h'
  refine ⟨he', _, fun k hk => ?_, h'⟩
  have h0' : gvP (aC j) p n 0 = aQ j' := by
    rw [← hq, ← h0]
    unfold gvP
    rw [hs]
    split <;> rfl
  have h12 : ∀ m, m ≠ 0 → gvP (aC j) p n m = p m := fun m hm => by
    unfold gvP
    rw [hs]
    split
    · exact upd_ne _ _ hm
    · rfl
  match k, hk with
  | 0, _ => exact h0'
  | 1, _ => exact (h12 1 (by omega)).trans (hp 1 (by omega))
  | 2, _ => exact (h12 2 (by omega)).trans (hp 2 (by omega))
theorem as_gen (n v : Int) (hv : genZ (aC 5) n = v) (h : AS w0 hb 5 w) : Calls Tryd.prog 67 #[.pointer (some ⟨hb, 0, none⟩), .int .i64 n] w fun e w' => e = .returned (.int .i64 v) ∧ w = w' := by
  obtain ⟨p, _, h⟩ := h
  rw [← hv]
  exact p1_gen n h
theorem as_taken (h : AS w0 hb 5 w) : Calls Tryd.prog 52 #[.pointer (some ⟨hb, 0, none⟩), .int .i64 1] w fun e w' => e = .returned (.bool true) ∧ w = w' := by
  obtain ⟨p, _, h⟩ := h
  exact p1_taken 1 h
theorem as_free (n v : Int) (hv : freeZ (aP 5) n = v) (hn : inN n 3 = true) (h : AS w0 hb 5 w) : Calls Tryd.prog 53 #[.pointer (some ⟨hb, 0, none⟩), .int .i64 n] w fun e w' => e = .returned (.int .i64 v) ∧ w = w' := by
  obtain ⟨p, hp, h⟩ := h
  have : freeZ p n = v := by
    rw [← hv]
    unfold freeZ
    have := inN_in hn
    rw [if_pos hn, if_pos hn, hp n.toNat (by omega)]
  rw [← this]
  exact p1_free n h
theorem as_retired (h : AS w0 hb 5 w) : Calls Tryd.prog 54 #[.pointer (some ⟨hb, 0, none⟩), .int .i64 0] w fun e w' => e = .returned (.int .i64 1) ∧ AS w0 hb 5 w' := by
  obtain ⟨p, hp, h⟩ := h
  exact (p1_retired 0 h).mono fun _ _ ⟨he, h⟩ => ⟨he, p, hp, h⟩
end
end Go.Proofs.YtplneoapcadlnaaDoor
