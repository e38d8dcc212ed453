/- Plain: a world: its tenants, tables, letters; what each operation answers, and leaves. Plain: apart: what is answered to B hangs not on A's operations, if nothing is granted between them. Plain: issued: which proxies were told; what was not told names nothing; what was closed is stale for good. Plain: issued: behind each operation. Plain: issued: any operation keeps what holds of the entries, and of the words that were told; what the law asks of its answer. Plain: issued: the tenants' words; what the law asks of an operation's answer. Plain: what waits in an inbox has the generation that its entry has now; inboxes by pairs; what an operation leaves of them. Plain: a tenant is a user of its heap: what holds of its collector holds behind any act of its. Plain: the two runs of P17.2 tell the same; bounds behind any operations; changes; what holds of each tenant's collector. Plain: what holds at the beginning; a root's word is of Kind root; the law's words kept beside any operations. -/
import Derived.Test.YtdhgpmndgcggfaaGreatDoorLbTenA
import Derived.Test.YtdhgpmndgcggfaaGreatDoorLbPrx
import Derived.Test.YtdhgpmndgcggfaaGreatDoorLbCol
namespace Go.Proofs.YtdhgpmndgcggfaaGreatDoor
namespace Wl
open Hp Tn Px

/-- A tenant of a world. -/
structure Wt where
  x : Sh
  s : Hs
  c : Cs
/-- A letter: to whom, from whom, the entry, its generation. -/
structure Lt where
  rc : Int
  fr : Int
  en : Int
  ge : Int
def samB (y z : Lt) : Bool := y.rc == z.rc && y.fr == z.fr && y.en == z.en && y.ge == z.ge
theorem sam_iff {y z : Lt} : samB y z = true ↔ y = z := by
  unfold samB
  simp only [Bool.and_eq_true, beq_iff_eq]
  constructor
  · rintro ⟨⟨⟨h1, h2⟩, h3⟩, h4⟩
    cases y; cases z
    simp_all
  · rintro rfl
    exact ⟨⟨⟨rfl, rfl⟩, rfl⟩, rfl⟩
/-- A world: the tenants 1, 2, ..; of each to each other one a table; what was not accepted. -/
structure Ws where
  t : List Wt
  x : Int → Int → List En
  l : List Lt
/-- An operation. -/
structure Op where
  d : Int
  t : Int
  w : Int
  o : Int
  n : Int
  m : Int
def isT (W : Ws) (i : Int) : Bool := decide (1 ≤ i) && decide (i ≤ W.t.length)
def tn (W : Ws) (i : Int) : Option Wt := if i < 1 then none else W.t[(i - 1).toNat]?
def setT (W : Ws) (i : Int) (y : Wt) : Ws := { W with t := W.t.set (i - 1).toNat y }
def upX (f : Int → Int → List En) (i k : Int) (l : List En) : Int → Int → List En := fun a b => if a = i ∧ b = k then l else f a b
def setX (W : Ws) (i k : Int) (l : List En) : Ws := { W with x := upX W.x i k l }
/-- The kind of a tenant's own act; 0: none. -/
def kOf (d : Int) : Int := if d = 0 then 1 else if d = 1 then 2 else if d = 2 then 3 else if d = 3 then 4 else if d = 4 then 5 else if d = 10 then 6 else if d = 11 then 7 else if d = 12 then 8 else 0
def actOf (o : Op) : Tact := ⟨kOf o.d, o.w, o.o, o.n, o.m⟩
/-- A proxy's word. -/
def pxw (N i g : Int) : Int := 1152921504606846976 * (N - 1) + 576460752303423488 + 4294967296 * i + g
/-- Another tenant. -/
def othB (W : Ws) (t n : Int) : Bool := isT W n && !(n == t)
/-- Whose entry a word is, its place. -/
def frI (w : Int) : Int := wdI w / 8 + 1
def enI (w : Int) : Int := wdI w % 8
/-- Does a word name an entry of another tenant's table, that is not in the inbox? -/
def fdB (W : Ws) (t w : Int) : Bool := wdK w == 2 && wdT w == t && othB W t (frI w) && !(W.l.any fun y => samB y ⟨t, frI w, enI w, wdG w⟩)
/-- Is that a letter from n to t? -/
def ltB (t n : Int) (y : Lt) : Bool := y.rc == t && y.fr == n
section
variable (W : Ws) (o : Op) (τ : Wt)
def grA : An :=
  if othB W o.t o.n = true then (if nmE τ.x o.t τ.s o.w = 0 then (if grE (W.x o.t o.n) (wdI o.w) (genZ τ.s.cs (wdI o.w)) = 0 then datum (grV (W.x o.t o.n) (wdI o.w) (genZ τ.s.cs (wdI o.w))) else wrong (grE (W.x o.t o.n) (wdI o.w) (genZ τ.s.cs (wdI o.w)))) else wrong (nmE τ.x o.t τ.s o.w)) else wrong 3
def grW : Ws :=
  if othB W o.t o.n = true ∧ nmE τ.x o.t τ.s o.w = 0 ∧ grE (W.x o.t o.n) (wdI o.w) (genZ τ.s.cs (wdI o.w)) = 0 then
    { (setX W o.t o.n (grS (W.x o.t o.n) (wdI o.w) (genZ τ.s.cs (wdI o.w)))) with l := W.l ++ [⟨o.n, o.t, grV (W.x o.t o.n) (wdI o.w) (genZ τ.s.cs (wdI o.w)), gnZ (W.x o.t o.n) (grV (W.x o.t o.n) (wdI o.w) (genZ τ.s.cs (wdI o.w)))⟩] } else W
def rvB : Bool := othB W o.t o.n && decide (0 ≤ o.m) && decide (o.m ≤ 7)
def rvA : An := if rvB W o = true then wrong (rvE (W.x o.t o.n) o.m) else wrong 3
def rvW : Ws := if rvB W o = true then setX W o.t o.n (rvS (W.x o.t o.n) o.m) else W
def acA : An :=
  if othB W o.t o.n = true then (match W.l.find? (ltB o.t o.n) with | some y => ⟨0, 2, pxw o.t (8 * (o.n - 1) + y.en) y.ge⟩ | none => wrong 9) else wrong 3
def acW : Ws := if othB W o.t o.n = true then { W with l := W.l.eraseP (ltB o.t o.n) } else W
def pkA : An :=
  if fdB W o.t o.w = true then (if lkE (W.x (frI o.w) o.t) (enI o.w) (wdG o.w) = 0 then (match tn W (frI o.w) with
      | some z => lookA z.x z.s (lkA (W.x (frI o.w) o.t) (enI o.w) (wdG o.w)) (lkB (W.x (frI o.w) o.t) (enI o.w) (wdG o.w)) o.n | none => wrong 3)
    else wrong (lkE (W.x (frI o.w) o.t) (enI o.w) (wdG o.w))) else wrong 4
def clA : An := if fdB W o.t o.w = true then wrong (wrE (W.x (frI o.w) o.t) (enI o.w) (wdG o.w)) else wrong 4
def clW : Ws := if fdB W o.t o.w = true then setX W (frI o.w) o.t (clS (W.x (frI o.w) o.t) (enI o.w) (wdG o.w)) else W
end
/-- What an operation answers, and leaves. -/
def doA (W : Ws) (o : Op) : An :=
  match tn W o.t with
  | none => wrong 3
  | some τ => if kOf o.d ≠ 0 then tnA τ.x o.t τ.s τ.c (actOf o) else if o.d = 5 then grA W o τ else if o.d = 6 then rvA W o else if o.d = 7 then acA W o else if o.d = 8 then pkA W o else if o.d = 9 then clA W o else wrong 3
def doW (W : Ws) (o : Op) : Ws :=
  match tn W o.t with
  | none => W
  | some τ => if kOf o.d ≠ 0 then setT W o.t ⟨τ.x, tnS τ.x o.t τ.s τ.c (actOf o), tnC τ.x τ.s τ.c (actOf o)⟩ else if o.d = 5 then grW W o τ else if o.d = 6 then rvW W o else if o.d = 7 then acW W o else if o.d = 9 then clW W o else W
def beginW (l : List Sh) : Ws := ⟨l.map fun x => ⟨x, Hs.init x, Cs.init⟩, fun _ _ => begL, []⟩
end Wl
end Go.Proofs.YtdhgpmndgcggfaaGreatDoor

namespace Go.Proofs.YtdhgpmndgcggfaaGreatDoor
namespace Wl
open Hp Tn Px

/-- No grant between two tenants. -/
def btw (o : Op) (a b : Int) : Bool := o.d == 5 && (o.t == a && o.n == b || o.t == b && o.n == a)
/-- A letter that A has no part in. -/
def noA (a : Int) (y : Lt) : Bool := !(y.rc == a) && !(y.fr == a)
/-- Two worlds that differ in what A is, and has with others than B, alone. -/
structure Like (a b : Int) (W V : Ws) : Prop where
  ab : a ≠ b
  len : V.t.length = W.t.length
  ten : ∀ i, i ≠ a → tn V i = tn W i
  tab : ∀ i k, i ≠ a → k ≠ a → V.x i k = W.x i k
  let_ : V.l.filter (noA a) = W.l.filter (noA a)
  wab : W.x a b = begL ∧ W.x b a = begL
  vab : V.x a b = begL ∧ V.x b a = begL
  wl : ∀ y ∈ W.l, ¬ (y.rc = a ∧ y.fr = b) ∧ ¬ (y.rc = b ∧ y.fr = a)
  vl : ∀ y ∈ V.l, ¬ (y.rc = a ∧ y.fr = b) ∧ ¬ (y.rc = b ∧ y.fr = a)
section
variable {a b i k : Int} {W V : Ws} {o : Op} {τ y : Wt} {e : List En}
theorem tn_setT (hi : 1 ≤ i) : tn (setT W i y) k = if k = i ∧ (i - 1).toNat < W.t.length then some y else tn W k := by
  unfold tn setT
  by_cases hk : k < 1
  · rw [if_pos hk, if_pos hk, if_neg (by omega)]
  · rw [if_neg hk, if_neg hk]
    simp only [List.getElem?_set]
    by_cases e : k = i
    · subst e
      rw [if_pos rfl]
      by_cases hl : (k - 1).toNat < W.t.length
      · rw [if_pos hl, if_pos ⟨rfl, hl⟩]
      · rw [if_neg hl, if_neg (fun h => hl h.2), List.getElem?_eq_none (by omega)]
    · rw [if_neg (by omega), if_neg (fun h => e h.1)]
theorem tn_some (h : tn W i = some τ) : 1 ≤ i ∧ (i - 1).toNat < W.t.length ∧ isT W i = true := by
  unfold tn at h
  split at h
  · cases h
  · have := (List.getElem?_eq_some_iff.1 h).1
    refine ⟨by omega, this, ?_⟩
    unfold isT
    simp only [Bool.and_eq_true, decide_eq_true_eq]
    omega
theorem tn_none (h : tn W i = none) : isT W i = false := by
  unfold tn at h
  unfold isT
  split at h
  · simp; omega
  · have := List.getElem?_eq_none_iff.1 h
    simp; omega
theorem Like.isT (h : Like a b W V) (i : Int) : isT V i = isT W i := by unfold Wl.isT; rw [h.len]
theorem Like.othB (h : Like a b W V) (t n : Int) : othB V t n = othB W t n := by unfold Wl.othB; rw [h.isT]
theorem Like.symm (h : Like a b W V) : Like a b V W :=
  ⟨h.ab, h.len.symm, fun i hi => (h.ten i hi).symm, fun i k hi hk => (h.tab i k hi hk).symm, h.let_.symm, h.vab, h.wab, h.vl, h.wl⟩
/-- What holds of one of them. -/
theorem Like.refl (hab : a ≠ b) (hx : W.x a b = begL ∧ W.x b a = begL) (hl : ∀ y ∈ W.l, ¬ (y.rc = a ∧ y.fr = b) ∧ ¬ (y.rc = b ∧ y.fr = a)) : Like a b W W :=
  ⟨hab, rfl, fun _ _ => rfl, fun _ _ _ _ => rfl, rfl, hx, hx, hl, hl⟩
/-- W is turned where it does not matter. -/
structure Off (a b : Int) (W W' : Ws) : Prop where
  len : W'.t.length = W.t.length
  ten : ∀ i, i ≠ a → tn W' i = tn W i
  tab : ∀ i k, i ≠ a → k ≠ a → W'.x i k = W.x i k
  let_ : W'.l.filter (noA a) = W.l.filter (noA a)
  wab : W.x a b = begL ∧ W.x b a = begL → W'.x a b = begL ∧ W'.x b a = begL
  wl : (∀ y ∈ W.l, ¬ (y.rc = a ∧ y.fr = b) ∧ ¬ (y.rc = b ∧ y.fr = a)) → ∀ y ∈ W'.l, ¬ (y.rc = a ∧ y.fr = b) ∧ ¬ (y.rc = b ∧ y.fr = a)
theorem Off.refl : Off a b W W := ⟨rfl, fun _ _ => rfl, fun _ _ _ _ => rfl, rfl, id, id⟩
theorem Like.off {W' : Ws} (h : Like a b W V) (g : Off a b W W') : Like a b W' V :=
  ⟨h.ab, h.len.trans g.len.symm, fun i hi => (h.ten i hi).trans (g.ten i hi).symm, fun i k hi hk => (h.tab i k hi hk).trans (g.tab i k hi hk).symm, h.let_.trans g.let_.symm, g.wab h.wab, h.vab, g.wl h.wl, h.vl⟩
theorem upX_at {f : Int → Int → List En} {i k u v : Int} : upX f i k e u v = if u = i ∧ v = k then e else f u v := rfl
/-- A table that A has a part in is turned. -/
theorem off_tab (hik : i = a ∨ k = a) (hb : (i = a ∧ k = b ∨ i = b ∧ k = a) → W.x i k = begL → e = begL) : Off a b W (setX W i k e) := by
  refine ⟨rfl, fun _ _ => rfl, fun u v hu hv => ?_, rfl, fun h => ⟨?_, ?_⟩, id⟩
  · show upX W.x i k e u v = W.x u v
    rw [upX_at, if_neg]
    rintro ⟨rfl, rfl⟩
    rcases hik with rfl | rfl
    · exact hu rfl
    · exact hv rfl
  · show upX W.x i k e a b = begL
    rw [upX_at]
    split
    · rename_i hh
      exact hb (Or.inl ⟨hh.1.symm, hh.2.symm⟩) (by rw [← hh.1, ← hh.2]; exact h.1)
    · exact h.1
  · show upX W.x i k e b a = begL
    rw [upX_at]
    split
    · rename_i hh
      exact hb (Or.inr ⟨hh.1.symm, hh.2.symm⟩) (by rw [← hh.1, ← hh.2]; exact h.2)
    · exact h.2
/-- A letter that A has a part in comes, or goes. -/
theorem off_add {y : Lt} (hy : noA a y = false) (hb : ¬ (y.rc = a ∧ y.fr = b) ∧ ¬ (y.rc = b ∧ y.fr = a)) : Off a b W { W with l := W.l ++ [y] } := by
  refine ⟨rfl, fun _ _ => rfl, fun _ _ _ _ => rfl, ?_, id, fun h z hz => ?_⟩
  · show (W.l ++ [y]).filter (noA a) = _
    rw [List.filter_append]
    simp [hy]
  · rcases List.mem_append.1 hz with hz | hz
    · exact h z hz
    · obtain rfl : z = y := by simpa using hz
      exact hb
theorem eraseP_off {p q : Lt → Bool} (h : ∀ y, p y = true → q y = false) : ∀ l : List Lt, (l.eraseP p).filter q = l.filter q
  | [] => rfl
  | y :: l => by
    rw [List.eraseP_cons]
    cases hp : p y
    · simp only [cond_false, List.filter_cons, eraseP_off h l]
    · simp only [cond_true, List.filter_cons, h y hp]
      simp
theorem eraseP_on {p q : Lt → Bool} (h : ∀ y, p y = true → q y = true) : ∀ l : List Lt, (l.eraseP p).filter q = (l.filter q).eraseP p
  | [] => rfl
  | y :: l => by
    rw [List.eraseP_cons]
    cases hp : p y
    · simp only [cond_false, List.filter_cons, eraseP_on h l]
      split
      · rw [List.eraseP_cons, hp]; rfl
      · rfl
    · simp only [cond_true, List.filter_cons, h y hp, if_true]
      rw [List.eraseP_cons, hp]; rfl
theorem find_on {p q : Lt → Bool} (h : ∀ y, p y = true → q y = true) : ∀ l : List Lt, l.find? p = (l.filter q).find? p
  | [] => rfl
  | y :: l => by
    cases hp : p y
    · rw [List.find?_cons_of_neg (by simp [hp]), List.filter_cons]
      split
      · rw [List.find?_cons_of_neg (by simp [hp])]
        exact find_on h l
      · exact find_on h l
    · rw [List.find?_cons_of_pos hp, List.filter_cons, if_pos (h y hp), List.find?_cons_of_pos hp]
theorem off_acc {t n : Int} (h : t = a ∨ n = a) : Off a b W { W with l := W.l.eraseP (ltB t n) } := by
  refine ⟨rfl, fun _ _ => rfl, fun _ _ _ _ => rfl, eraseP_off (fun y hy => ?_) _, id, fun hh z hz => hh z (List.mem_of_mem_eraseP hz)⟩
  unfold ltB at hy
  unfold noA
  simp only [Bool.and_eq_true, beq_iff_eq] at hy
  rcases h with rfl | rfl
  · simp [hy.1]
  · simp [hy.2]
theorem off_setT (h : tn W a = some τ) : Off a b W (setT W a y) := by
  obtain ⟨h1, h2, _⟩ := tn_some h
  refine ⟨by unfold setT; simp, fun i hi => ?_, fun _ _ _ _ => rfl, rfl, id, id⟩
  rw [tn_setT h1, if_neg (fun e => hi e.1)]
theorem begL_at (j : Int) (z : En) (h : atE begL j = some z) : z = ⟨0, 1, 0, 0⟩ := by
  unfold atE at h
  split at h
  · cases h
  · unfold begL at h
    have := List.mem_of_getElem? h
    exact (List.mem_replicate.1 this).2
theorem rv_beg (j : Int) : rvS begL j = begL := by
  unfold rvS
  cases h : atE begL j with
  | none => rfl
  | some z =>
    obtain rfl := begL_at j z h
    show (if (0 : Int) = 1 then _ else begL) = begL
    rw [if_neg (by decide)]
theorem wr_beg (j g : Int) : wrE begL j g ≠ 0 := by
  unfold wrE
  cases h : atE begL j with
  | none => exact (show (4 : Int) ≠ 0 by decide)
  | some z =>
    obtain rfl := begL_at j z h
    show (if (1 : Int) < g then (4 : Int) else if g < 1 ∨ (0 : Int) = 0 then 5 else 0) ≠ 0
    split
    · decide
    · rw [if_pos (Or.inr rfl)]
      decide
theorem lk_beg (j g : Int) : lkE begL j g ≠ 0 := by
  unfold lkE
  cases h : atE begL j with
  | none => exact (show (4 : Int) ≠ 0 by decide)
  | some z =>
    show (if wrE begL j g = 0 then _ else wrE begL j g) ≠ 0
    rw [if_neg (wr_beg j g)]
    exact wr_beg j g
theorem cl_beg (j g : Int) : clS begL j g = begL := by
  unfold clS
  cases h : atE begL j with
  | none => rfl
  | some z =>
    show (if wrE begL j g = 0 then _ else begL) = begL
    rw [if_neg (wr_beg j g)]
/-- An operation of A's own, or between another one and A. -/
theorem off_do (ho : btw o a b = false) (h : o.t = a) : Off a b W (doW W o) := by
  unfold doW
  split
  · exact Off.refl
  · rename_i τ hτ
    have hg : ¬ (o.d = 5 ∧ o.n = b) := fun hh => by
      unfold btw at ho
      simp [hh.1, hh.2, h] at ho
    split
    · rw [h] at hτ ⊢
      exact off_setT hτ
    · split
      · rename_i h5
        have hnb : o.n ≠ b := fun e => hg ⟨h5, e⟩
        unfold grW
        split
        · rename_i hc
          have hna : o.n ≠ a := fun e => by
            have := hc.1
            unfold Wl.othB at this
            simp [e, h] at this
          have h1 : Off a b W (setX W o.t o.n (grS (W.x o.t o.n) (wdI o.w) (genZ τ.s.cs (wdI o.w)))) := off_tab (Or.inl h) (fun hh => by rcases hh with hh | hh <;> omega)
          have h2 := off_add (a := a) (b := b) (W := setX W o.t o.n (grS (W.x o.t o.n) (wdI o.w) (genZ τ.s.cs (wdI o.w)))) (y := ⟨o.n, o.t, grV (W.x o.t o.n) (wdI o.w) (genZ τ.s.cs (wdI o.w)), gnZ (W.x o.t o.n) (grV (W.x o.t o.n) (wdI o.w) (genZ τ.s.cs (wdI o.w)))⟩) (by unfold noA; simp [h]) ⟨fun hh => hna hh.1, fun hh => hnb hh.1⟩
          exact ⟨h2.len.trans h1.len, fun i hi => (h2.ten i hi).trans (h1.ten i hi), fun i k hi hk => (h2.tab i k hi hk).trans (h1.tab i k hi hk), h2.let_.trans h1.let_, fun e => h2.wab (h1.wab e), fun e => h2.wl (h1.wl e)⟩
        · exact Off.refl
      · split
        · unfold rvW
          split
          · refine off_tab (Or.inl h) (fun _ he => ?_)
            rw [he]
            exact rv_beg _
          · exact Off.refl
        · split
          · unfold acW
            split
            · exact off_acc (Or.inl h)
            · exact Off.refl
          · split
            · unfold clW
              split
              · refine off_tab (Or.inr h) (fun _ he => ?_)
                rw [he]
                exact cl_beg _ _
              · exact Off.refl
            · exact Off.refl
/-- A table that A has no part in is turned in both. -/
theorem like_tab (L : Like a b W V) (hi : i ≠ a) (hk : k ≠ a) : Like a b (setX W i k e) (setX V i k e) := by
  refine ⟨L.ab, L.len, L.ten, fun u v hu hv => ?_, L.let_, ⟨?_, ?_⟩, ⟨?_, ?_⟩, L.wl, L.vl⟩
  · show upX V.x _ _ _ u v = upX W.x _ _ _ u v
    rw [upX_at, upX_at, L.tab u v hu hv]
  · show upX W.x _ _ _ a b = begL
    rw [upX_at, if_neg (fun e => hi e.1.symm)]; exact L.wab.1
  · show upX W.x _ _ _ b a = begL
    rw [upX_at, if_neg (fun e => hk e.2.symm)]; exact L.wab.2
  · show upX V.x _ _ _ a b = begL
    rw [upX_at, if_neg (fun e => hi e.1.symm)]; exact L.vab.1
  · show upX V.x _ _ _ b a = begL
    rw [upX_at, if_neg (fun e => hk e.2.symm)]; exact L.vab.2
theorem any_filter {q : Lt → Bool} {z : Lt} (hz : q z = true) (l : List Lt) : (l.any fun y => samB y z) = ((l.filter q).any fun y => samB y z) := by
  rw [Bool.eq_iff_iff, List.any_eq_true, List.any_eq_true]
  constructor
  · rintro ⟨y, hy, e⟩
    have e' : y = z := sam_iff.1 e
    exact ⟨y, List.mem_filter.2 ⟨hy, by rw [e']; exact hz⟩, e⟩
  · rintro ⟨y, hy, e⟩
    exact ⟨y, (List.mem_filter.1 hy).1, e⟩
/-- What a word names, of tables that A has no part in. -/
theorem like_fd {t w : Int} (L : Like a b W V) (ht : t ≠ a) (hf : frI w ≠ a) : fdB V t w = fdB W t w := by
  unfold fdB
  have hz : noA a ⟨t, frI w, enI w, wdG w⟩ = true := by unfold noA; simp [ht, hf]
  rw [L.othB, any_filter hz V.l, any_filter hz W.l, L.let_]
/-- What a word of B's names, of A's table to B. -/
theorem like_fdA {w : Int} (L : Like a b W V) (hf : frI w = a) : fdB V b w = fdB W b w := by
  unfold fdB
  have hv : (V.l.any fun y => samB y ⟨b, frI w, enI w, wdG w⟩) = false := by
    rw [List.any_eq_false]
    intro y hy e
    obtain rfl : y = _ := sam_iff.1 e
    exact (L.vl _ hy).2 ⟨rfl, hf⟩
  have hw : (W.l.any fun y => samB y ⟨b, frI w, enI w, wdG w⟩) = false := by
    rw [List.any_eq_false]
    intro y hy e
    obtain rfl : y = _ := sam_iff.1 e
    exact (L.wl _ hy).2 ⟨rfl, hf⟩
  rw [L.othB, hv, hw]
/-- An operation of another one's, in both worlds. -/
theorem like_do (L : Like a b W V) (ho : btw o a b = false) (h : o.t ≠ a) : Like a b (doW W o) (doW V o) := by
  have hT := L.ten o.t h
  unfold doW
  rw [hT]
  cases hτ : tn W o.t with
  | none => exact L
  | some τ =>
    obtain ⟨t1, t2, _⟩ := tn_some hτ
    simp only
    split
    · refine ⟨L.ab, ?_, fun i hi => ?_, L.tab, L.let_, L.wab, L.vab, L.wl, L.vl⟩
      · unfold setT
        simp [L.len]
      · rw [tn_setT t1, tn_setT t1, L.len, L.ten i hi]
    · split
      · rename_i h5
        by_cases hna : o.n = a
        · have hnb : o.t ≠ b := fun e => by
            unfold btw at ho
            simp [h5, hna, e] at ho
          have one : ∀ {U : Ws}, Off a b U (grW U o τ) := fun {U} => by
            unfold grW
            split
            · have h1 : Off a b U (setX U o.t o.n (grS (U.x o.t o.n) (wdI o.w) (genZ τ.s.cs (wdI o.w)))) := off_tab (Or.inr hna) (fun hh => by rcases hh with hh | hh <;> omega)
              have h2 := off_add (a := a) (b := b) (W := setX U o.t o.n (grS (U.x o.t o.n) (wdI o.w) (genZ τ.s.cs (wdI o.w)))) (y := ⟨o.n, o.t, grV (U.x o.t o.n) (wdI o.w) (genZ τ.s.cs (wdI o.w)), gnZ (U.x o.t o.n) (grV (U.x o.t o.n) (wdI o.w) (genZ τ.s.cs (wdI o.w)))⟩) (by unfold noA; simp [hna]) ⟨fun hh => hnb hh.2, fun hh => h hh.2⟩
              exact ⟨h2.len.trans h1.len, fun i hi => (h2.ten i hi).trans (h1.ten i hi), fun i k hi hk => (h2.tab i k hi hk).trans (h1.tab i k hi hk), h2.let_.trans h1.let_, fun e => h2.wab (h1.wab e), fun e => h2.wl (h1.wl e)⟩
            · exact Off.refl
          exact ((L.off one).symm.off one).symm
        · have hx := L.tab o.t o.n h hna
          unfold grW
          rw [L.othB, hx]
          split
          · refine ⟨L.ab, L.len, L.ten, fun i k hi hk => ?_, ?_, ⟨?_, ?_⟩, ⟨?_, ?_⟩, fun z hz => ?_, fun z hz => ?_⟩
            · show upX V.x _ _ _ i k = upX W.x _ _ _ i k
              rw [upX_at, upX_at, L.tab i k hi hk]
            · show (V.l ++ [_]).filter (noA a) = (W.l ++ [_]).filter (noA a)
              rw [List.filter_append, List.filter_append, L.let_]
            · show upX W.x _ _ _ a b = begL
              rw [upX_at, if_neg (fun e => h e.1.symm)]; exact L.wab.1
            · show upX W.x _ _ _ b a = begL
              rw [upX_at, if_neg (fun e => hna e.2.symm)]; exact L.wab.2
            · show upX V.x _ _ _ a b = begL
              rw [upX_at, if_neg (fun e => h e.1.symm)]; exact L.vab.1
            · show upX V.x _ _ _ b a = begL
              rw [upX_at, if_neg (fun e => hna e.2.symm)]; exact L.vab.2
            · rcases List.mem_append.1 hz with hz | hz
              · exact L.wl z hz
              · obtain rfl := List.mem_singleton.1 hz
                exact ⟨fun e => hna e.1, fun e => h e.2⟩
            · rcases List.mem_append.1 hz with hz | hz
              · exact L.vl z hz
              · obtain rfl := List.mem_singleton.1 hz
                exact ⟨fun e => hna e.1, fun e => h e.2⟩
          · exact L
      · split
        · unfold rvW rvB
          rw [L.othB]
          split
          · by_cases hna : o.n = a
            · have one : ∀ {U : Ws}, Off a b U (setX U o.t o.n (rvS (U.x o.t o.n) o.m)) := off_tab (Or.inr hna) (fun _ he => by rw [he]; exact rv_beg _)
              exact ((L.off one).symm.off one).symm
            · rw [L.tab o.t o.n h hna]
              exact like_tab L h hna
          · exact L
        · split
          · unfold acW
            rw [L.othB]
            split
            · by_cases hna : o.n = a
              · exact ((L.off (off_acc (Or.inr hna))).symm.off (off_acc (Or.inr hna))).symm
              · have hp : ∀ y, ltB o.t o.n y = true → noA a y = true := fun y hy => by
                  unfold ltB at hy
                  unfold noA
                  simp only [Bool.and_eq_true, beq_iff_eq] at hy
                  simp [hy.1, hy.2, h, hna]
                refine ⟨L.ab, L.len, L.ten, L.tab, ?_, L.wab, L.vab, fun z hz => L.wl z (List.mem_of_mem_eraseP hz), fun z hz => L.vl z (List.mem_of_mem_eraseP hz)⟩
                show (V.l.eraseP _).filter (noA a) = (W.l.eraseP _).filter (noA a)
                rw [eraseP_on hp, eraseP_on hp, L.let_]
            · exact L
          · split
            · by_cases hfa : frI o.w = a
              · have one : ∀ {U : Ws}, Off a b U (clW U o) := fun {U} => by
                  unfold clW
                  split
                  · exact off_tab (Or.inl hfa) (fun _ he => by rw [he]; exact cl_beg _ _)
                  · exact Off.refl
                exact ((L.off one).symm.off one).symm
              · unfold clW
                rw [like_fd L h hfa, L.tab _ _ hfa h]
                split
                · exact like_tab L hfa h
                · exact L
            · exact L
/-- What is answered to B. -/
theorem like_ans (L : Like a b W V) (ho : btw o a b = false) (h : o.t = b) : doA V o = doA W o := by
  have hab : o.t ≠ a := fun e => L.ab (e.symm.trans h)
  have hT := L.ten o.t hab
  unfold doA
  rw [hT]
  cases hτ : tn W o.t with
  | none => rfl
  | some τ =>
    simp only
    split
    · rfl
    · split
      · rename_i h5
        have hna : o.n ≠ a := fun e => by
          unfold btw at ho
          simp [h5, e, h] at ho
        unfold grA
        rw [L.othB, L.tab _ _ hab hna]
      · split
        · unfold rvA rvB
          rw [L.othB]
          by_cases hna : o.n = a
          · rw [hna, h, L.wab.2, L.vab.2]
          · rw [L.tab _ _ hab hna]
        · split
          · unfold acA
            rw [L.othB]
            by_cases hna : o.n = a
            · have hv : V.l.find? (ltB o.t o.n) = none := by
                rw [List.find?_eq_none]
                intro y hy e
                unfold ltB at e
                simp only [Bool.and_eq_true, beq_iff_eq] at e
                exact (L.vl y hy).2 ⟨e.1.trans h, e.2.trans hna⟩
              have hw : W.l.find? (ltB o.t o.n) = none := by
                rw [List.find?_eq_none]
                intro y hy e
                unfold ltB at e
                simp only [Bool.and_eq_true, beq_iff_eq] at e
                exact (L.wl y hy).2 ⟨e.1.trans h, e.2.trans hna⟩
              rw [hv, hw]
            · have hp : ∀ y, ltB o.t o.n y = true → noA a y = true := fun y hy => by
                unfold ltB at hy
                unfold noA
                simp only [Bool.and_eq_true, beq_iff_eq] at hy
                simp [hy.1, hy.2, hab, hna]
              rw [find_on hp V.l, find_on hp W.l, L.let_]
          · split
            · unfold pkA
              by_cases hfa : frI o.w = a
              · rw [h, like_fdA L hfa, hfa, L.wab.1, L.vab.1, if_neg (lk_beg _ _), if_neg (lk_beg _ _)]
              · rw [like_fd L hab hfa, L.tab _ _ hfa hab, L.ten _ hfa]
            · split
              · unfold clA
                by_cases hfa : frI o.w = a
                · rw [h, like_fdA L hfa, hfa, L.wab.1, L.vab.1]
                · rw [like_fd L hab hfa, L.tab _ _ hfa hab]
              · rfl
end
end Wl
end Go.Proofs.YtdhgpmndgcggfaaGreatDoor

namespace Go.Proofs.YtdhgpmndgcggfaaGreatDoor
namespace Wl
open Hp Tn Px

/-- A word that was told, to whom, and whether it was closed. -/
structure Wd where
  w : Int
  t : Int
  b : Bool
def markW (wd : List Wd) (o : Op) (a : An) : List Wd := wd.map fun p => if p.w = o.w ∧ p.t = o.t ∧ o.d = 9 ∧ a.e = 0 then ⟨p.w, p.t, true⟩ else p
/-- How the law keeps them. -/
def upI (wd : List Wd) (o : Op) (a : An) : List Wd := markW wd o a ++ (if a.k = 2 ∧ o.d ≠ 8 then [⟨a.w, o.t, false⟩] else [])
theorem pxw_of {k i g : Int} (hi : 0 ≤ i) (hi2 : i ≤ 67108863) (hg : 0 ≤ g) (hg2 : g ≤ 4294967295) : wdK (pxw k i g) = 2 ∧ wdT (pxw k i g) = k ∧ wdI (pxw k i g) = i ∧ wdG (pxw k i g) = g := by
  unfold wdK wdT wdI wdG pxw
  refine ⟨by omega, by omega, by omega, by omega⟩
theorem of_pxw {k w : Int} (h1 : wdK w = 2) (h2 : wdT w = k) : pxw k (8 * (frI w - 1) + enI w) (wdG w) = w := by
  have e : 8 * (frI w - 1) + enI w = wdI w := by unfold frI enI; omega
  rw [e]
  unfold wdK wdT at *
  unfold pxw wdI wdG
  omega
theorem fr_of {i e : Int} {w : Int} (he : 0 ≤ e) (he2 : e ≤ 7) (h : wdI w = 8 * (i - 1) + e) : frI w = i ∧ enI w = e := by
  unfold frI enI
  rw [h]
  omega
/-- What holds of the entries, the letters, and the words that were told. -/
structure EntI (W : Ws) (wd : List Wd) : Prop where
  few : W.t.length ≤ 16
  wf : ∀ i k, Wf (W.x i k)
  let_ : ∀ y ∈ W.l, isT W y.rc = true ∧ othB W y.rc y.fr = true ∧ ∃ x, atE (W.x y.fr y.rc) y.en = some x ∧ y.ge ≤ x.g ∧ (y.ge = x.g → x.i ≠ 0)
  pos : ∀ y ∈ W.l, 0 ≤ y.ge
  told : ∀ p ∈ wd, wdK p.w = 2 → othB W p.t (frI p.w) = true ∧ wdT p.w = p.t ∧ (∃ x, atE (W.x (frI p.w) p.t) (enI p.w) = some x ∧ wdG p.w ≤ x.g ∧ (wdG p.w = x.g → x.i ≠ 0 ∧ p.b = false)) ∧ ∀ y ∈ W.l, y ≠ ⟨p.t, frI p.w, enI p.w, wdG p.w⟩
  full : ∀ i k e x, isT W k = true → othB W k i = true → atE (W.x i k) e = some x → x.i ≠ 0 → (⟨k, i, e, x.g⟩ : Lt) ∈ W.l ∨ ∃ p ∈ wd, p.w = pxw k (8 * (i - 1) + e) x.g ∧ p.t = k
  nd : W.l.Nodup
  shut : ∀ p ∈ wd, p.b = true → wdK p.w = 2
section
variable {W V : Ws} {wd : List Wd} {o : Op} {τ y : Wt} {i k t w : Int} {a : An} {e : List En}
theorem oth_is (h : othB W t k = true) : isT W k = true ∧ t ≠ k := by
  unfold othB at h
  simp only [Bool.and_eq_true, Bool.not_eq_true', beq_eq_false_iff_ne] at h
  exact ⟨h.1, fun e => h.2 e.symm⟩
theorem isT_is (h : isT W k = true) : 1 ≤ k ∧ k ≤ W.t.length := by
  unfold isT at h
  simpa using h
theorem fd_is (h : fdB W t w = true) : wdK w = 2 ∧ wdT w = t ∧ othB W t (frI w) = true ∧ ∀ y ∈ W.l, y ≠ ⟨t, frI w, enI w, wdG w⟩ := by
  unfold fdB at h
  simp only [Bool.and_eq_true, beq_iff_eq, Bool.not_eq_true'] at h
  refine ⟨h.1.1.1, h.1.1.2, h.1.2, fun y hy e => ?_⟩
  have := List.any_eq_false.1 h.2 y hy
  exact this (sam_iff.2 e)
theorem fd_of (h1 : wdK w = 2) (h2 : wdT w = t) (h3 : othB W t (frI w) = true) (h4 : ∀ y ∈ W.l, y ≠ ⟨t, frI w, enI w, wdG w⟩) : fdB W t w = true := by
  unfold fdB
  have : (W.l.any fun y => samB y ⟨t, frI w, enI w, wdG w⟩) = false := by
    rw [List.any_eq_false]
    exact fun y hy e => h4 y hy (sam_iff.1 e)
  rw [this]
  simp [h1, h2, h3]
/-- A word that names an entry was told. -/
theorem EntI.named (h : EntI W wd) (ht : isT W t = true) (hf : fdB W t w = true) (hw : wrE (W.x (frI w) t) (enI w) (wdG w) = 0) : ∃ p ∈ wd, p.w = w ∧ p.t = t := by
  obtain ⟨f1, f2, f3, f4⟩ := fd_is hf
  obtain ⟨x, hx, hg, hi⟩ := wr_ok hw
  rcases h.full _ _ _ x ht f3 hx hi with hl | ⟨p, hp, e1, e2⟩
  · rw [hg] at hl
    exact absurd rfl (f4 _ hl)
  · rw [hg, of_pxw f1 f2] at e1
    exact ⟨p, hp, e1, e2⟩
/-- A word that was closed is stale. -/
theorem EntI.stale (h : EntI W wd) {p : Wd} (hp : p ∈ wd) (hb : p.b = true) : fdB W p.t p.w = true ∧ wrE (W.x (frI p.w) p.t) (enI p.w) (wdG p.w) = 5 := by
  have hk := h.shut p hp hb
  obtain ⟨h1, h2, ⟨x, hx, hg, hs⟩, h4⟩ := h.told p hp hk
  refine ⟨fd_of hk h2 h1 h4, ?_⟩
  have hne : wdG p.w ≠ x.g := fun e => by
    have := (hs e).2
    rw [hb] at this
    cases this
  unfold wrE
  rw [hx]
  show (if x.g < wdG p.w then (4 : Int) else if wdG p.w < x.g ∨ x.i = 0 then 5 else 0) = 5
  rw [if_neg (by omega), if_pos (Or.inl (by omega))]
theorem mark_not (h : o.d ≠ 9) : markW wd o a = wd := by
  unfold markW
  have : (fun p : Wd => if p.w = o.w ∧ p.t = o.t ∧ o.d = 9 ∧ a.e = 0 then ⟨p.w, p.t, true⟩ else p) = id := by
    funext p
    rw [if_neg (fun hh => h hh.2.2.1)]
    rfl
  rw [this, List.map_id]
theorem mark_err (h : a.e ≠ 0) : markW wd o a = wd := by
  unfold markW
  have : (fun p : Wd => if p.w = o.w ∧ p.t = o.t ∧ o.d = 9 ∧ a.e = 0 then ⟨p.w, p.t, true⟩ else p) = id := by
    funext p
    rw [if_neg (fun hh => h hh.2.2.2)]
    rfl
  rw [this, List.map_id]
/-- One more word, that is no proxy's. -/
theorem EntI.more (h : EntI W wd) {p : Wd} (hk : wdK p.w ≠ 2) (hb : p.b = false) : EntI W (wd ++ [p]) := by
  refine ⟨h.few, h.wf, h.let_, h.pos, fun q hq hq2 => ?_, fun i k e x h1 h2 h3 h4 => ?_, h.nd, fun q hq hqb => ?_⟩
  · rcases List.mem_append.1 hq with hq | hq
    · exact h.told q hq hq2
    · obtain rfl := List.mem_singleton.1 hq
      exact absurd hq2 hk
  · rcases h.full i k e x h1 h2 h3 h4 with hl | ⟨q, hq, e1⟩
    · exact Or.inl hl
    · exact Or.inr ⟨q, List.mem_append_left _ hq, e1⟩
  · rcases List.mem_append.1 hq with hq | hq
    · exact h.shut q hq hqb
    · obtain rfl := List.mem_singleton.1 hq
      rw [hb] at hqb
      cases hqb
theorem EntI.setT (h : EntI W wd) (i : Int) (y : Wt) : EntI (setT W i y) wd := by
  have hT : ∀ k, isT (Wl.setT W i y) k = isT W k := fun k => by unfold isT Wl.setT; simp
  have hO : ∀ t k, othB (Wl.setT W i y) t k = othB W t k := fun t k => by unfold othB; rw [hT]
  exact ⟨by unfold Wl.setT; simpa using h.few, h.wf, fun z hz => by rw [hT, hO]; exact h.let_ z hz, h.pos, fun p hp hk => by rw [hO]; exact h.told p hp hk, fun i' k e x h1 h2 => h.full i' k e x (by rw [← hT]; exact h1) (by rw [← hO]; exact h2), h.nd, h.shut⟩
/-- A table is turned, but not whose entries are taken, nor their generations. -/
theorem EntI.tab (h : EntI W wd) (hw : Wf e) (h1 : ∀ j x, atE (W.x i k) j = some x → ∃ x', atE e j = some x' ∧ x'.g = x.g ∧ (x.i ≠ 0 → x'.i ≠ 0)) (h2 : ∀ j x', atE e j = some x' → ∃ x, atE (W.x i k) j = some x ∧ x'.g = x.g ∧ (x'.i ≠ 0 → x.i ≠ 0)) : EntI (setX W i k e) wd := by
  have at_ : ∀ u v j x, atE (W.x u v) j = some x → ∃ x', atE ((setX W i k e).x u v) j = some x' ∧ x'.g = x.g ∧ (x.i ≠ 0 → x'.i ≠ 0) := fun u v j x hx => by
    show ∃ x', atE (upX W.x i k e u v) j = some x' ∧ _
    rw [upX_at]
    split
    · rename_i hh
      rw [hh.1, hh.2] at hx
      exact h1 j x hx
    · exact ⟨x, hx, rfl, id⟩
  refine ⟨h.few, fun u v => ?_, fun z hz => ?_, h.pos, fun p hp hk => ?_, fun u v j x' hT hO hx' hi => ?_, h.nd, h.shut⟩
  · show Wf (upX W.x i k e u v)
    rw [upX_at]
    split
    · exact hw
    · exact h.wf u v
  · obtain ⟨l1, l2, x, hx, hg, hi⟩ := h.let_ z hz
    obtain ⟨x', hx', hg', hi'⟩ := at_ _ _ _ _ hx
    exact ⟨l1, l2, x', hx', by rw [hg']; exact hg, fun e' => hi' (hi (by rw [← hg']; exact e'))⟩
  · obtain ⟨l1, l2, ⟨x, hx, hg, hi⟩, l4⟩ := h.told p hp hk
    obtain ⟨x', hx', hg', hi'⟩ := at_ _ _ _ _ hx
    exact ⟨l1, l2, ⟨x', hx', by rw [hg']; exact hg, fun e' => by
      have := hi (by rw [← hg']; exact e')
      exact ⟨hi' this.1, this.2⟩⟩, l4⟩
  · have hx2 : atE (upX W.x i k e u v) j = some x' := hx'
    rw [upX_at] at hx2
    split at hx2
    · rename_i hh
      obtain ⟨x, hx, hg, hi2⟩ := h2 j x' hx2
      rw [hg]
      rw [← hh.1, ← hh.2] at hx
      exact h.full u v j x hT hO hx (hi2 hi)
    · exact h.full u v j x' hT hO hx2 hi
end
end Wl
end Go.Proofs.YtdhgpmndgcggfaaGreatDoor

namespace Go.Proofs.YtdhgpmndgcggfaaGreatDoor
namespace Wl
open Hp Tn Px

section
variable {W V : Ws} {wd : List Wd} {o : Op} {τ y : Wt} {i k t w : Int} {a : An} {e : List En}
theorem at_len (h : Wf e) {j : Int} {x : En} (hx : atE e j = some x) : 0 ≤ j ∧ j ≤ 7 := by
  obtain ⟨h0, h1, _⟩ := atE_lt hx
  have := h.len
  omega
theorem EntI.rv (h : EntI W wd) (i k m : Int) : EntI (setX W i k (rvS (W.x i k) m)) wd := by
  have hw := (h.wf i k).rv m
  unfold rvS at hw ⊢
  cases hm : atE (W.x i k) m with
  | none =>
    rw [hm] at hw
    exact h.tab (h.wf i k) (fun j x hx => ⟨x, hx, rfl, id⟩) (fun j x hx => ⟨x, hx, rfl, id⟩)
  | some z =>
    rw [hm] at hw
    simp only at hw ⊢
    split
    · rename_i h1
      rw [if_pos h1] at hw
      have hs := fun j => atE_set (y := ⟨2, z.g, 0, 0⟩) hm j
      refine h.tab hw (fun j x hx => ?_) (fun j x' hx' => ?_)
      · rw [hs j]
        by_cases e1 : j = m
        · rw [if_pos e1]
          rw [e1, hm] at hx
          obtain rfl := Option.some.inj hx
          exact ⟨_, rfl, rfl, fun _ => by show (2 : Int) ≠ 0; decide⟩
        · rw [if_neg e1]
          exact ⟨x, hx, rfl, id⟩
      · rw [hs j] at hx'
        by_cases e1 : j = m
        · rw [if_pos e1] at hx'
          obtain rfl := Option.some.inj hx'
          rw [e1]
          exact ⟨z, hm, rfl, fun _ => by omega⟩
        · rw [if_neg e1] at hx'
          exact ⟨x', hx', rfl, id⟩
    · exact h.tab (h.wf i k) (fun j x hx => ⟨x, hx, rfl, id⟩) (fun j x hx => ⟨x, hx, rfl, id⟩)
/-- An entry is granted. -/
theorem EntI.gr (h : EntI W wd) (hT : isT W k = true) (hO : othB W k i = true) {c g : Int} (he : grE (W.x i k) c g = 0) :
    EntI { (setX W i k (grS (W.x i k) c g)) with l := W.l ++ [⟨k, i, grV (W.x i k) c g, gnZ (W.x i k) (grV (W.x i k) c g)⟩] } wd := by
  have hw := (h.wf i k).gr c g
  obtain ⟨_, _, z, hz, z0, z1, hg, hv, hS⟩ := gr_ok he
  rw [hv, hg, hS]
  rw [hS] at hw
  have hs := fun j => atE_set (y := ⟨1, z.g, c, g⟩) hz j
  rw [Int.toNat_natCast] at hs
  have hz1 := ((h.wf i k).at_ hz).g1
  obtain ⟨F, hF⟩ : ∃ F : Nat, fstN (W.x i k) = F := ⟨_, rfl⟩
  rw [hF] at hz hs hw ⊢
  -- an entry of another table, or place, is as it was; that one has the same generation, and was empty
  have at_ : ∀ u v j x, atE (W.x u v) j = some x → ((u = i ∧ v = k ∧ j = F) ∧ x = z ∧ atE (upX W.x i k ((W.x i k).set F ⟨1, z.g, c, g⟩) u v) j = some ⟨1, z.g, c, g⟩) ∨ ¬ (u = i ∧ v = k ∧ j = F) ∧ atE (upX W.x i k ((W.x i k).set F ⟨1, z.g, c, g⟩) u v) j = some x := fun u v j x hx => by
    rw [upX_at]
    by_cases hh : u = i ∧ v = k
    · rw [if_pos hh, hs j]
      rw [hh.1, hh.2] at hx
      by_cases e1 : j = F
      · rw [if_pos e1]
        rw [e1, hz] at hx
        exact Or.inl ⟨⟨hh.1, hh.2, e1⟩, (Option.some.inj hx).symm, rfl⟩
      · rw [if_neg e1]
        exact Or.inr ⟨fun q => e1 q.2.2, hx⟩
    · rw [if_neg hh]
      exact Or.inr ⟨fun q => hh ⟨q.1, q.2.1⟩, hx⟩
  have hnew : ∀ y ∈ W.l, y ≠ ⟨k, i, F, z.g⟩ := fun y hy e1 => by
    obtain ⟨_, _, x, hx, _, hi⟩ := h.let_ y hy
    rw [e1] at hx hi
    rw [hz] at hx
    obtain rfl := Option.some.inj hx
    exact hi rfl z0
  refine ⟨h.few, fun u v => ?_, fun y hy => ?_, fun y hy => ?_, fun p hp hk => ?_, fun u v j x' h1 h2 hx' hi => ?_, ?_, h.shut⟩
  · show Wf (upX W.x i k _ u v)
    rw [upX_at]
    split
    · exact hw
    · exact h.wf u v
  · rcases List.mem_append.1 hy with hy | hy
    · obtain ⟨l1, l2, x, hx, hg1, hi1⟩ := h.let_ y hy
      rcases at_ _ _ _ _ hx with ⟨_, rfl, h4⟩ | ⟨_, h4⟩
      · exact ⟨l1, l2, _, h4, hg1, fun e1 => absurd z0 (hi1 e1)⟩
      · exact ⟨l1, l2, _, h4, hg1, hi1⟩
    · obtain rfl := List.mem_singleton.1 hy
      rcases at_ _ _ _ _ hz with ⟨_, _, h4⟩ | ⟨h3, _⟩
      · exact ⟨hT, hO, _, h4, Int.le_refl _, fun _ => by show (1 : Int) ≠ 0; decide⟩
      · exact absurd ⟨rfl, rfl, rfl⟩ h3
  · rcases List.mem_append.1 hy with hy | hy
    · exact h.pos y hy
    · obtain rfl := List.mem_singleton.1 hy
      show 0 ≤ z.g
      omega
  · obtain ⟨l1, l2, ⟨x, hx, hg1, hi1⟩, l4⟩ := h.told p hp hk
    refine ⟨l1, l2, ?_, fun y hy => ?_⟩
    · rcases at_ _ _ _ _ hx with ⟨_, rfl, h4⟩ | ⟨_, h4⟩
      · exact ⟨_, h4, hg1, fun e1 => absurd z0 (hi1 e1).1⟩
      · exact ⟨_, h4, hg1, hi1⟩
    · rcases List.mem_append.1 hy with hy | hy
      · exact l4 y hy
      · obtain rfl := List.mem_singleton.1 hy
        intro e1
        simp only [Lt.mk.injEq] at e1
        obtain ⟨e1, e2, e3, e4⟩ := e1
        rw [← e1, ← e2, ← e3, hz] at hx
        obtain rfl := Option.some.inj hx
        exact (hi1 e4.symm).1 z0
  · have hx2 : atE (upX W.x i k ((W.x i k).set F ⟨1, z.g, c, g⟩) u v) j = some x' := hx'
    rw [upX_at] at hx2
    split at hx2
    · rename_i hh
      rw [hs j] at hx2
      by_cases e1 : j = F
      · rw [if_pos e1] at hx2
        obtain rfl := Option.some.inj hx2
        left
        rw [hh.1, hh.2, e1]
        exact List.mem_append_right _ (by simp)
      · rw [if_neg e1] at hx2
        rw [← hh.1, ← hh.2] at hx2
        rcases h.full u v j x' h1 h2 hx2 hi with hl | hl
        · exact Or.inl (List.mem_append_left _ hl)
        · exact Or.inr hl
    · rcases h.full u v j x' h1 h2 hx2 hi with hl | hl
      · exact Or.inl (List.mem_append_left _ hl)
      · exact Or.inr hl
  · show (W.l ++ [_]).Nodup
    rw [List.nodup_append]
    refine ⟨h.nd, by simp, fun y hy z' hz' => ?_⟩
    obtain rfl := List.mem_singleton.1 hz'
    exact hnew y hy
theorem mem_eraseP_other {p : Lt → Bool} {y z : Lt} : ∀ {l : List Lt}, l.find? p = some y → z ∈ l → z ≠ y → z ∈ l.eraseP p
  | [], h, _, _ => by cases h
  | x :: l, h, hz, hne => by
    cases hp : p x
    · rw [List.find?_cons_of_neg (by simp [hp])] at h
      rw [List.eraseP_cons_of_neg (by simp [hp])]
      rcases List.mem_cons.1 hz with rfl | hz
      · exact List.mem_cons_self ..
      · exact List.mem_cons_of_mem _ (mem_eraseP_other h hz hne)
    · rw [List.find?_cons_of_pos hp] at h
      obtain rfl := Option.some.inj h
      rw [List.eraseP_cons_of_pos hp]
      rcases List.mem_cons.1 hz with rfl | hz
      · exact absurd rfl hne
      · exact hz
theorem not_mem_eraseP {p : Lt → Bool} {y : Lt} : ∀ {l : List Lt}, l.find? p = some y → l.Nodup → ¬ y ∈ l.eraseP p
  | [], h, _ => by cases h
  | x :: l, h, hn => by
    obtain ⟨n1, n2⟩ := List.nodup_cons.1 hn
    cases hp : p x
    · rw [List.find?_cons_of_neg (by simp [hp])] at h
      rw [List.eraseP_cons_of_neg (by simp [hp])]
      intro hm
      rcases List.mem_cons.1 hm with rfl | hm
      · exact n1 (List.mem_of_find?_eq_some h)
      · exact not_mem_eraseP h n2 hm
    · rw [List.find?_cons_of_pos hp] at h
      obtain rfl := Option.some.inj h
      rw [List.eraseP_cons_of_pos hp]
      exact n1
/-- A letter is accepted. -/
theorem EntI.ac (h : EntI W wd) {y : Lt} (hy : W.l.find? (ltB t k) = some y) : EntI { W with l := W.l.eraseP (ltB t k) } (wd ++ [⟨pxw t (8 * (k - 1) + y.en) y.ge, t, false⟩]) ∧ y.rc = t ∧ y.fr = k := by
  have hp := List.find?_some hy
  have hm := List.mem_of_find?_eq_some hy
  unfold ltB at hp
  simp only [Bool.and_eq_true, beq_iff_eq] at hp
  obtain ⟨rfl, rfl⟩ := hp
  obtain ⟨l1, l2, x, hx, hg, hi⟩ := h.let_ y hm
  have hk := (h.wf y.fr y.rc).at_ hx
  obtain ⟨j0, j1⟩ := at_len (h.wf y.fr y.rc) hx
  have hT := isT_is l1
  have hF := isT_is (oth_is l2).1
  have hn := h.few
  have hpos := h.pos y hm
  have hg2 := hk.g2
  obtain ⟨w1, w2, w3, w4⟩ := pxw_of (k := y.rc) (i := 8 * (y.fr - 1) + y.en) (g := y.ge) (by omega) (by omega) hpos (by omega)
  obtain ⟨f1, f2⟩ := fr_of j0 j1 w3
  have hgone : ∀ z ∈ W.l.eraseP (ltB y.rc y.fr), z ∈ W.l ∧ z ≠ y := fun z hz => by
    refine ⟨List.mem_of_mem_eraseP hz, fun e1 => ?_⟩
    subst e1
    exact not_mem_eraseP hy h.nd hz
  refine ⟨⟨h.few, h.wf, fun z hz => h.let_ z (hgone z hz).1, fun z hz => h.pos z (hgone z hz).1, fun p hp hk2 => ?_, fun u v j x' h1 h2 hx' hi' => ?_, h.nd.sublist List.eraseP_sublist, fun p hp hb => ?_⟩, rfl, rfl⟩
  · rcases List.mem_append.1 hp with hp | hp
    · obtain ⟨q1, q2, q3, q4⟩ := h.told p hp hk2
      exact ⟨q1, q2, q3, fun z hz => q4 z (hgone z hz).1⟩
    · obtain rfl := List.mem_singleton.1 hp
      simp only
      rw [f1, f2, w2, w4]
      exact ⟨l2, rfl, ⟨x, hx, hg, fun e1 => ⟨hi e1, by first | trivial | rfl⟩⟩, fun z hz => (hgone z hz).2⟩
  · rcases h.full u v j x' h1 h2 hx' hi' with hl | ⟨p, hp, e1⟩
    · by_cases e2 : (⟨v, u, j, x'.g⟩ : Lt) = y
      · right
        refine ⟨_, List.mem_append_right _ (List.mem_singleton.2 rfl), ?_, ?_⟩
        · subst e2
          rfl
        · subst e2
          rfl
      · left
        show _ ∈ W.l.eraseP _
        by_cases e3 : ltB y.rc y.fr ⟨v, u, j, x'.g⟩ = true
        · exact mem_eraseP_other hy hl e2
        · exact (List.mem_eraseP_of_neg e3).2 hl
    · exact Or.inr ⟨p, List.mem_append_left _ hp, e1⟩
  · rcases List.mem_append.1 hp with hp | hp
    · exact h.shut p hp hb
    · obtain rfl := List.mem_singleton.1 hp
      cases hb
end
end Wl
end Go.Proofs.YtdhgpmndgcggfaaGreatDoor

namespace Go.Proofs.YtdhgpmndgcggfaaGreatDoor
namespace Wl
open Hp Tn Px

section
variable {W V : Ws} {wd : List Wd} {o : Op} {τ y : Wt} {i k t w : Int} {a : An} {e : List En}
theorem EntI.none (h : EntI W wd) (hd : o.d ≠ 9 ∨ a.e ≠ 0) (hk : a.k ≠ 2 ∨ o.d = 8) : EntI W (upI wd o a) := by
  have hm : markW wd o a = wd := hd.elim mark_not mark_err
  unfold upI
  rw [hm, if_neg (fun hh => hk.elim (fun e => e hh.1) (fun e => hh.2 e)), List.append_nil]
  exact h
/-- An entry is closed. -/
theorem EntI.cl (h : EntI W wd) (hf : fdB W o.t o.w = true) (hd : o.d = 9) : EntI (clW W o) (upI wd o (clA W o)) := by
  obtain ⟨f1, f2, f3, f4⟩ := fd_is hf
  have eA : clA W o = wrong (wrE (W.x (frI o.w) o.t) (enI o.w) (wdG o.w)) := by unfold clA; rw [if_pos hf]
  have eW : clW W o = setX W (frI o.w) o.t (clS (W.x (frI o.w) o.t) (enI o.w) (wdG o.w)) := by unfold clW; rw [if_pos hf]
  rw [eA, eW]
  have hid : EntI (setX W (frI o.w) o.t (W.x (frI o.w) o.t)) wd := h.tab (h.wf _ _) (fun j x hx => ⟨x, hx, rfl, id⟩) (fun j x hx => ⟨x, hx, rfl, id⟩)
  by_cases hw : wrE (W.x (frI o.w) o.t) (enI o.w) (wdG o.w) = 0
  · obtain ⟨z, hz, zg, zi⟩ := wr_ok hw
    have hS : clS (W.x (frI o.w) o.t) (enI o.w) (wdG o.w) = (W.x (frI o.w) o.t).set (enI o.w).toNat ⟨0, z.g + 1, 0, 0⟩ := by unfold clS; rw [hz]; simp only; rw [if_pos hw]
    have hwf := (h.wf (frI o.w) o.t).cl (enI o.w) (wdG o.w)
    rw [hS] at hwf ⊢
    have hs := fun j => atE_set (y := ⟨0, z.g + 1, 0, 0⟩) hz j
    have at_ : ∀ u v j x, atE (W.x u v) j = some x → ((u = frI o.w ∧ v = o.t ∧ j = enI o.w) ∧ x = z ∧ atE ((setX W (frI o.w) o.t ((W.x (frI o.w) o.t).set (enI o.w).toNat ⟨0, z.g + 1, 0, 0⟩)).x u v) j = some ⟨0, z.g + 1, 0, 0⟩) ∨ ¬ (u = frI o.w ∧ v = o.t ∧ j = enI o.w) ∧ atE ((setX W (frI o.w) o.t ((W.x (frI o.w) o.t).set (enI o.w).toNat ⟨0, z.g + 1, 0, 0⟩)).x u v) j = some x := fun u v j x hx => by
      show (_ ∧ _ ∧ atE (upX W.x _ _ _ u v) j = _) ∨ _ ∧ atE (upX W.x _ _ _ u v) j = _
      rw [upX_at]
      by_cases hh : u = frI o.w ∧ v = o.t
      · rw [if_pos hh, hs j]
        rw [hh.1, hh.2] at hx
        by_cases e1 : j = enI o.w
        · rw [if_pos e1]
          rw [e1, hz] at hx
          exact Or.inl ⟨⟨hh.1, hh.2, e1⟩, (Option.some.inj hx).symm, rfl⟩
        · rw [if_neg e1]
          exact Or.inr ⟨fun q => e1 q.2.2, hx⟩
      · rw [if_neg hh]
        exact Or.inr ⟨fun q => hh ⟨q.1, q.2.1⟩, hx⟩
    have hup : upI wd o (wrong (wrE (W.x (frI o.w) o.t) (enI o.w) (wdG o.w))) = wd.map (fun p => if p.w = o.w ∧ p.t = o.t then ⟨p.w, p.t, true⟩ else p) := by
      unfold upI markW wrong
      rw [if_neg (fun hh => by have : (0 : Int) = 2 := hh.1; omega), List.append_nil]
      refine List.map_congr_left fun p _ => ?_
      by_cases hp : p.w = o.w ∧ p.t = o.t
      · rw [if_pos hp, if_pos ⟨hp.1, hp.2, hd, hw⟩]
      · rw [if_neg hp, if_neg (fun hh => hp ⟨hh.1, hh.2.1⟩)]
    rw [hup]
    refine ⟨h.few, fun u v => ?_, fun y hy => ?_, h.pos, fun p hp hk => ?_, fun u v j x' h1 h2 hx' hi => ?_, h.nd, fun p hp hb => ?_⟩
    · show Wf (upX W.x _ _ _ u v)
      rw [upX_at]
      split
      · exact hwf
      · exact h.wf u v
    · obtain ⟨l1, l2, x, hx, hg, hi⟩ := h.let_ y hy
      rcases at_ _ _ _ _ hx with ⟨h3, rfl, h4⟩ | ⟨_, h4⟩
      · exact ⟨l1, l2, _, h4, by show y.ge ≤ x.g + 1; omega, fun e1 => by
          have : y.ge = x.g + 1 := e1
          omega⟩
      · exact ⟨l1, l2, _, h4, hg, hi⟩
    · obtain ⟨q, hq, rfl⟩ := List.mem_map.1 hp
      have hqw : (if q.w = o.w ∧ q.t = o.t then (⟨q.w, q.t, true⟩ : Wd) else q).w = q.w ∧ (if q.w = o.w ∧ q.t = o.t then (⟨q.w, q.t, true⟩ : Wd) else q).t = q.t := by split <;> exact ⟨rfl, rfl⟩
      rw [hqw.1] at hk ⊢
      rw [hqw.2]
      obtain ⟨l1, l2, ⟨x, hx, hg, hi⟩, l4⟩ := h.told q hq hk
      refine ⟨l1, l2, ?_, l4⟩
      rcases at_ _ _ _ _ hx with ⟨h3, rfl, h4⟩ | ⟨h3, h4⟩
      · exact ⟨_, h4, by show wdG q.w ≤ x.g + 1; omega, fun e1 => by
          have : wdG q.w = x.g + 1 := e1
          omega⟩
      · refine ⟨_, h4, hg, fun e1 => ⟨(hi e1).1, ?_⟩⟩
        rw [if_neg]
        · exact (hi e1).2
        · rintro ⟨e2, e3⟩
          exact h3 ⟨by rw [e2], e3, by rw [e2]⟩
    · rcases Classical.em (u = frI o.w ∧ v = o.t ∧ j = enI o.w) with hh | hh
      · obtain ⟨rfl, rfl, rfl⟩ := hh
        rcases at_ _ _ _ _ hz with ⟨_, _, h4⟩ | ⟨h4, _⟩
        · rw [h4] at hx'
          obtain rfl := Option.some.inj hx'
          exact absurd rfl hi
        · exact absurd ⟨rfl, rfl, rfl⟩ h4
      · have hx2 : atE (W.x u v) j = some x' := by
          have h5 : atE (upX W.x (frI o.w) o.t ((W.x (frI o.w) o.t).set (enI o.w).toNat ⟨0, z.g + 1, 0, 0⟩) u v) j = some x' := hx'
          rw [upX_at] at h5
          split at h5
          · rename_i h6
            rw [hs j, if_neg (fun e1 => hh ⟨h6.1, h6.2, e1⟩)] at h5
            rw [h6.1, h6.2]
            exact h5
          · exact h5
        rcases h.full u v j x' h1 h2 hx2 hi with hl | ⟨p, hp, e1, e2⟩
        · exact Or.inl hl
        · refine Or.inr ⟨_, List.mem_map.2 ⟨p, hp, rfl⟩, ?_⟩
          split <;> exact ⟨e1, e2⟩
    · obtain ⟨q, hq, rfl⟩ := List.mem_map.1 hp
      by_cases hqo : q.w = o.w ∧ q.t = o.t
      · rw [if_pos hqo]
        show wdK q.w = 2
        rw [hqo.1]
        exact f1
      · rw [if_neg hqo] at hb ⊢
        exact h.shut q hq hb
  · have hS : clS (W.x (frI o.w) o.t) (enI o.w) (wdG o.w) = W.x (frI o.w) o.t := by
      unfold clS
      cases hz : atE (W.x (frI o.w) o.t) (enI o.w) with
      | none => rfl
      | some z =>
        simp only
        rw [if_neg hw]
    rw [hS]
    exact hid.none (Or.inr hw) (Or.inl (by unfold wrong; show (0 : Int) ≠ 2; decide))
theorem k_wrong (e : Int) : (wrong e).k = 0 := rfl
/-- Any operation. -/
theorem ent_do (h : EntI W wd) (hroot : ∀ τ, tn W o.t = some τ → (tnA τ.x o.t τ.s τ.c (actOf o)).k = 2 → wdK (tnA τ.x o.t τ.s τ.c (actOf o)).w = 1) : EntI (doW W o) (upI wd o (doA W o)) := by
  unfold doW doA
  cases hτ : tn W o.t with
  | none => exact h.none (Or.inr (by show (3 : Int) ≠ 0; decide)) (Or.inl (by show (0 : Int) ≠ 2; decide))
  | some τ =>
    have hT := (tn_some hτ).2.2
    simp only
    split
    · rename_i hk
      have hd : o.d ≠ 9 := fun e => by
        unfold kOf at hk
        rw [e] at hk
        exact hk (by decide)
      have h1 := h.setT o.t ⟨τ.x, tnS τ.x o.t τ.s τ.c (actOf o), tnC τ.x τ.s τ.c (actOf o)⟩
      unfold upI
      rw [mark_not hd]
      split
      · rename_i h2
        refine h1.more ?_ rfl
        have := hroot τ hτ h2.1
        show wdK (tnA τ.x o.t τ.s τ.c (actOf o)).w ≠ 2
        omega
      · rw [List.append_nil]
        exact h1
    · split
      · rename_i h5
        have hno : ∀ b : An, b.k ≠ 2 → upI wd o b = wd := fun b hb => by
          unfold upI
          rw [mark_not (by omega), if_neg (fun hh => hb hh.1), List.append_nil]
        have hk2 : (grA W o τ).k ≠ 2 := by
          unfold grA
          repeat' split
          all_goals (first | (show (1 : Int) ≠ 2; decide) | (show (0 : Int) ≠ 2; decide))
        rw [hno _ hk2]
        unfold grW
        split
        · rename_i hc
          exact h.gr (oth_is hc.1).1 (by
            have := oth_is hc.1
            unfold othB
            rw [hT]
            have hne : (o.t == o.n) = false := by simpa using this.2
            rw [hne]
            rfl) hc.2.2
        · exact h
      · split
        · rename_i h6
          have h1 : EntI (rvW W o) wd := by
            unfold rvW
            split
            · exact h.rv _ _ _
            · exact h
          refine h1.none (Or.inl (by omega)) (Or.inl ?_)
          unfold rvA
          split <;> (rw [k_wrong]; decide)
        · split
          · rename_i h7
            unfold acA acW
            split
            · rename_i ho
              cases hy : W.l.find? (ltB o.t o.n) with
              | none =>
                have e1 : W.l.eraseP (ltB o.t o.n) = W.l := List.eraseP_of_forall_not (fun z hz => List.find?_eq_none.1 hy z hz)
                rw [e1]
                exact h.none (Or.inl (by omega)) (Or.inl (by show (0 : Int) ≠ 2; decide))
              | some y =>
                have h1 := (h.ac hy).1
                unfold upI
                rw [mark_not (by omega), if_pos ⟨rfl, by omega⟩]
                exact h1
            · exact h.none (Or.inl (by omega)) (Or.inl (by show (0 : Int) ≠ 2; decide))
          · split
            · rename_i h9
              rw [if_neg (show ¬ o.d = 8 by omega)]
              by_cases hf : fdB W o.t o.w = true
              · exact h.cl hf h9
              · unfold clW clA
                rw [if_neg hf, if_neg hf]
                exact h.none (Or.inr (by show (4 : Int) ≠ 0; decide)) (Or.inl (by show (0 : Int) ≠ 2; decide))
            · rename_i h9
              by_cases h8 : o.d = 8
              · exact h.none (Or.inl (by omega)) (Or.inr h8)
              · rw [if_neg h8]
                exact h.none (Or.inl h9) (Or.inl (by show (0 : Int) ≠ 2; decide))
end
end Wl
end Go.Proofs.YtdhgpmndgcggfaaGreatDoor

namespace Go.Proofs.YtdhgpmndgcggfaaGreatDoor
namespace Wl
open Hp Tn Px

/-- What names a cell of a tenant's was told to it. -/
structure TenI (W : Ws) (wd : List Wd) : Prop where
  ten : ∀ i τ, tn W i = some τ → ∃ l, Tn.Told τ.x i τ.s l ∧ ∀ p ∈ l, ∃ q ∈ wd, q.w = p.1 ∧ q.t = i
  who : ∀ q ∈ wd, isT W q.t = true
section
variable {W V : Ws} {wd : List Wd} {o : Op} {τ y : Wt} {i k t w : Int} {a : An} {e : List En}
theorem upT_mem {l : List (Int × Bool)} {p : Int × Bool} (h : p ∈ upT l k w a) : (∃ q ∈ l, q.1 = p.1) ∨ (a.k = 2 ∧ k ≠ 9 ∧ p.1 = a.w) := by
  have hmap : ∀ {L : List (Int × Bool)} {f : Int × Bool → Int × Bool} (_ : ∀ q, (f q).1 = q.1) {p : Int × Bool}, p ∈ L.map f → ∃ q ∈ L, q.1 = p.1 := fun {L f} hf {p} hp => by
    obtain ⟨q, hq, rfl⟩ := List.mem_map.1 hp
    exact ⟨q, hq, (hf q).symm⟩
  have h1 : ∀ {p : Int × Bool}, p ∈ (if k = 2 ∧ a.e = 0 then l.map (fun p => if p.1 = w then (p.1, false) else p) else l) → ∃ q ∈ l, q.1 = p.1 := fun {p} hp => by
    split at hp
    · exact hmap (fun q => by split <;> rfl) hp
    · exact ⟨p, hp, rfl⟩
  unfold upT at h
  split at h
  · rename_i hc
    split at h
    · obtain ⟨q, hq, e1⟩ := hmap (fun q => by split <;> rfl) h
      obtain ⟨r, hr, e2⟩ := h1 hq
      exact Or.inl ⟨r, hr, e2.trans e1⟩
    · rcases List.mem_append.1 h with h | h
      · exact Or.inl (h1 h)
      · obtain rfl := List.mem_singleton.1 h
        exact Or.inr ⟨hc.1, hc.2, rfl⟩
  · exact Or.inl (h1 h)
theorem upI_keep {q : Wd} (hq : q ∈ wd) : ∃ r ∈ upI wd o a, r.w = q.w ∧ r.t = q.t := by
  refine ⟨_, List.mem_append_left _ (List.mem_map.2 ⟨q, hq, rfl⟩), ?_⟩
  split <;> exact ⟨rfl, rfl⟩
theorem upI_who (h : ∀ q ∈ wd, isT W q.t = true) (hV : ∀ i, isT V i = isT W i) (ho : a.k = 2 → isT W o.t = true) : ∀ q ∈ upI wd o a, isT V q.t = true := fun q hq => by
  rw [hV]
  rcases List.mem_append.1 hq with hq | hq
  · obtain ⟨r, hr, rfl⟩ := List.mem_map.1 hq
    have := h r hr
    split
    · exact this
    · exact this
  · split at hq
    · rename_i hc
      obtain rfl := List.mem_singleton.1 hq
      exact ho hc.1
    · cases hq
theorem tn_t (h : V.t = W.t) (i : Int) : tn V i = tn W i := by unfold tn; rw [h]
theorem isT_t (h : V.t.length = W.t.length) (i : Int) : isT V i = isT W i := by unfold isT; rw [h]
theorem doW_len : (doW W o).t.length = W.t.length := by
  unfold doW
  split
  · rfl
  · split
    · unfold setT; simp
    · split
      · unfold grW
        split <;> rfl
      · split
        · unfold rvW
          split <;> rfl
        · split
          · unfold acW
            split <;> rfl
          · split
            · unfold clW
              split <;> rfl
            · rfl
/-- What is no tenant's own act changes no tenant. -/
theorem doW_ten (h : kOf o.d = 0) : (doW W o).t = W.t := by
  unfold doW
  split
  · rfl
  · rw [if_neg (by omega)]
    split
    · unfold grW
      split <;> rfl
    · split
      · unfold rvW
        split <;> rfl
      · split
        · unfold acW
          split <;> rfl
        · split
          · unfold clW
            split <;> rfl
          · rfl
theorem kOf_le (d : Int) : 0 ≤ kOf d ∧ kOf d ≤ 8 := by
  unfold kOf
  repeat' split
  all_goals omega
/-- Any operation. -/
theorem ten_do (h : TenI W wd) (hcr : ∀ τ, tn W o.t = some τ → ∃ pc, CR τ.x τ.c pc τ.s ∧ τ.s.ch ≤ 4611686018427300000) : TenI (doW W o) (upI wd o (doA W o)) := by
  have hk2 : (doA W o).k = 2 → isT W o.t = true := fun e => by
    cases hτ : tn W o.t with
    | none =>
      unfold doA at e
      rw [hτ] at e
      exact absurd e (by show (0 : Int) ≠ 2; decide)
    | some τ => exact (tn_some hτ).2.2
  refine ⟨fun i τ hτ => ?_, upI_who h.who (isT_t doW_len) hk2⟩
  have old : ∀ {τ : Wt}, tn W i = some τ → ∃ l, Tn.Told τ.x i τ.s l ∧ ∀ p ∈ l, ∃ q ∈ upI wd o (doA W o), q.w = p.1 ∧ q.t = i := fun {τ} hτ => by
    obtain ⟨l, hT, hl⟩ := h.ten i τ hτ
    refine ⟨l, hT, fun p hp => ?_⟩
    obtain ⟨q, hq, e1, e2⟩ := hl p hp
    obtain ⟨r, hr, e3, e4⟩ := upI_keep (o := o) (a := doA W o) hq
    exact ⟨r, hr, e3.trans e1, e4.trans e2⟩
  by_cases hk : kOf o.d = 0
  · rw [tn_t (doW_ten hk)] at hτ
    exact old hτ
  · cases hσ : tn W o.t with
    | none =>
      have e1 : doW W o = W := by unfold doW; rw [hσ]
      rw [e1] at hτ
      exact old hτ
    | some σ =>
      have e1 : doW W o = setT W o.t ⟨σ.x, tnS σ.x o.t σ.s σ.c (actOf o), tnC σ.x σ.s σ.c (actOf o)⟩ := by unfold doW; rw [hσ]; simp only; rw [if_pos hk]
      have e2 : doA W o = tnA σ.x o.t σ.s σ.c (actOf o) := by unfold doA; rw [hσ]; simp only; rw [if_pos hk]
      obtain ⟨t1, t2, _⟩ := tn_some hσ
      rw [e1, tn_setT t1] at hτ
      split at hτ
      · rename_i hh
        obtain ⟨rfl, _⟩ := hh
        obtain rfl := Option.some.inj hτ
        obtain ⟨pc, hc, hch⟩ := hcr σ hσ
        obtain ⟨l, hT, hl⟩ := h.ten _ σ hσ
        have hkb := kOf_le o.d
        have hka : (actOf o).k % 10 = kOf o.d := by show kOf o.d % 10 = _; omega
        refine ⟨_, (told_step hc hch hT (actOf o)).1, fun p hp => ?_⟩
        rw [e2]
        rcases upT_mem hp with ⟨q, hq, e3⟩ | ⟨e3, _, e4⟩
        · obtain ⟨r, hr, e5, e6⟩ := hl q hq
          obtain ⟨u, hu, e7, e8⟩ := upI_keep (o := o) (a := tnA σ.x o.t σ.s σ.c (actOf o)) hr
          exact ⟨u, hu, e7.trans (e5.trans e3), e8.trans e6⟩
        · refine ⟨⟨(tnA σ.x o.t σ.s σ.c (actOf o)).w, o.t, false⟩, List.mem_append_right _ ?_, e4.symm, rfl⟩
          rw [if_pos ⟨e3, fun e5 => hk (by rw [e5]; rfl)⟩]
          exact List.mem_singleton.2 rfl
      · exact old hτ
/-- An operation whose word is looked at. -/
def nmdB (o : Op) : Bool := decide (1 ≤ o.d) && decide (o.d ≤ 5) || o.d == 8 || o.d == 9
theorem nmd_is (h : nmdB o = true) : o.d = 1 ∨ o.d = 2 ∨ o.d = 3 ∨ o.d = 4 ∨ o.d = 5 ∨ o.d = 8 ∨ o.d = 9 := by
  unfold nmdB at h
  simp only [Bool.or_eq_true, Bool.and_eq_true, decide_eq_true_eq, beq_iff_eq] at h
  omega
/-- An own act that has no error, of a word: it names a cell. -/
theorem own_nm (hd : o.d = 1 ∨ o.d = 2 ∨ o.d = 3 ∨ o.d = 4) (he : (tnA τ.x o.t τ.s τ.c (actOf o)).e = 0) : nmE τ.x o.t τ.s o.w = 0 := by
  have hsl : slE τ.x o.t τ.s o.w o.n = 0 → nmE τ.x o.t τ.s o.w = 0 := fun h => by
    unfold slE at h
    split at h
    · assumption
    · rename_i h1; exact h
  unfold tnA at he
  rcases hd with hd | hd | hd | hd
  · have hk : (actOf o).k % 10 = 2 := by unfold actOf kOf; rw [hd]; rfl
    rw [if_pos hk] at he
    unfold dropA wrong at he
    simp only at he
    split at he
    · assumption
    · exact he
  · have hk : (actOf o).k % 10 = 3 := by unfold actOf kOf; rw [hd]; rfl
    rw [if_neg (by omega), if_pos hk] at he
    unfold loadA at he
    split at he
    · rename_i h1; exact hsl h1
    · exact hsl he
  · have hk : (actOf o).k % 10 = 4 := by unfold actOf kOf; rw [hd]; rfl
    rw [if_neg (by omega), if_neg (by omega), if_pos hk] at he
    unfold storeA wrong at he
    simp only at he
    split at he
    · rename_i h1; exact hsl h1
    · exact hsl he
  · have hk : (actOf o).k % 10 = 5 := by unfold actOf kOf; rw [hd]; rfl
    rw [if_neg (by omega), if_neg (by omega), if_neg (by omega), if_pos hk] at he
    unfold pointA wrong at he
    simp only at he
    split at he
    · rename_i h1; exact hsl h1
    · exact hsl he
theorem gr_nm (he : (grA W o τ).e = 0) : nmE τ.x o.t τ.s o.w = 0 := by
  unfold grA at he
  split at he
  · split at he
    · assumption
    · exact he
  · exact absurd he (by show (3 : Int) ≠ 0; decide)
theorem pk_nm (he : (pkA W o).e = 0) : fdB W o.t o.w = true ∧ wrE (W.x (frI o.w) o.t) (enI o.w) (wdG o.w) = 0 := by
  unfold pkA at he
  split at he
  · rename_i hf
    refine ⟨hf, ?_⟩
    have hlk : lkE (W.x (frI o.w) o.t) (enI o.w) (wdG o.w) = 0 → wrE (W.x (frI o.w) o.t) (enI o.w) (wdG o.w) = 0 := fun h => by
      unfold lkE at h
      split at h
      · split at h
        · assumption
        · exact h
      · cases h
    split at he
    · rename_i h1; exact hlk h1
    · exact hlk he
  · exact absurd he (by show (4 : Int) ≠ 0; decide)
theorem cl_nm (he : (clA W o).e = 0) : fdB W o.t o.w = true ∧ wrE (W.x (frI o.w) o.t) (enI o.w) (wdG o.w) = 0 := by
  unfold clA at he
  split at he
  · rename_i hf; exact ⟨hf, he⟩
  · exact absurd he (by show (4 : Int) ≠ 0; decide)
/-- A word that was not told has an error. -/
theorem iss_known (h : EntI W wd) (g : TenI W wd) (hn : nmdB o = true) (he : (doA W o).e = 0) : ∃ q ∈ wd, q.w = o.w ∧ q.t = o.t := by
  unfold doA at he
  cases hτ : tn W o.t with
  | none =>
    rw [hτ] at he
    exact absurd he (by show (3 : Int) ≠ 0; decide)
  | some τ =>
    rw [hτ] at he
    simp only at he
    have hT := (tn_some hτ).2.2
    have hnm : nmE τ.x o.t τ.s o.w = 0 → ∃ q ∈ wd, q.w = o.w ∧ q.t = o.t := fun h1 => by
      obtain ⟨l, hl, hw⟩ := g.ten _ τ hτ
      have := hl.known h1
      rw [List.any_eq_true] at this
      obtain ⟨p, hp, e1⟩ := this
      obtain ⟨q, hq, e2, e3⟩ := hw p hp
      exact ⟨q, hq, e2.trans (by simpa using e1), e3⟩
    have hpx : fdB W o.t o.w = true ∧ wrE (W.x (frI o.w) o.t) (enI o.w) (wdG o.w) = 0 → ∃ q ∈ wd, q.w = o.w ∧ q.t = o.t := fun h1 => h.named hT h1.1 h1.2
    rcases nmd_is hn with hd | hd | hd | hd | hd | hd | hd
    · rw [if_pos (by rw [hd]; decide)] at he
      exact hnm (own_nm (Or.inl hd) he)
    · rw [if_pos (by rw [hd]; decide)] at he
      exact hnm (own_nm (Or.inr (Or.inl hd)) he)
    · rw [if_pos (by rw [hd]; decide)] at he
      exact hnm (own_nm (Or.inr (Or.inr (Or.inl hd))) he)
    · rw [if_pos (by rw [hd]; decide)] at he
      exact hnm (own_nm (Or.inr (Or.inr (Or.inr hd))) he)
    · rw [if_neg (by rw [hd]; decide), if_pos hd] at he
      exact hnm (gr_nm he)
    · rw [if_neg (by rw [hd]; decide), if_neg (by omega), if_neg (by omega), if_neg (by omega), if_pos hd] at he
      exact hpx (pk_nm he)
    · rw [if_neg (by rw [hd]; decide), if_neg (by omega), if_neg (by omega), if_neg (by omega), if_neg (by omega), if_pos hd] at he
      exact hpx (cl_nm he)
/-- A word that was closed has an error: a proxy's is stale. -/
theorem iss_shut (h : EntI W wd) (g : TenI W wd) {p : Wd} (hp : p ∈ wd) (hw : p.w = o.w) (ht : p.t = o.t) (hb : p.b = true) (hn : nmdB o = true) : (doA W o).e ≠ 0 ∧ (8 ≤ o.d → (doA W o).e = 5) := by
  have hk := h.shut p hp hb
  obtain ⟨s1, s2⟩ := h.stale hp hb
  rw [hw, ht] at s1 s2
  rw [hw] at hk
  have hTT := g.who p hp
  rw [ht] at hTT
  cases hτ : tn W o.t with
  | none =>
    have := tn_none hτ
    rw [this] at hTT
    cases hTT
  | some τ =>
    have hnm : nmE τ.x o.t τ.s o.w ≠ 0 := fun e => by
      obtain ⟨m1, _⟩ := nm_yes.1 e
      unfold mineB at m1
      simp only [Bool.and_eq_true, beq_iff_eq] at m1
      omega
    unfold doA
    rw [hτ]
    simp only
    rcases nmd_is hn with hd | hd | hd | hd | hd | hd | hd
    · rw [if_pos (by rw [hd]; decide)]
      exact ⟨fun he => hnm (own_nm (Or.inl hd) he), fun _ => by omega⟩
    · rw [if_pos (by rw [hd]; decide)]
      exact ⟨fun he => hnm (own_nm (Or.inr (Or.inl hd)) he), fun _ => by omega⟩
    · rw [if_pos (by rw [hd]; decide)]
      exact ⟨fun he => hnm (own_nm (Or.inr (Or.inr (Or.inl hd))) he), fun _ => by omega⟩
    · rw [if_pos (by rw [hd]; decide)]
      exact ⟨fun he => hnm (own_nm (Or.inr (Or.inr (Or.inr hd))) he), fun _ => by omega⟩
    · rw [if_neg (by rw [hd]; decide), if_pos hd]
      exact ⟨fun he => hnm (gr_nm he), fun _ => by omega⟩
    · rw [if_neg (by rw [hd]; decide), if_neg (by omega), if_neg (by omega), if_neg (by omega), if_pos hd]
      have e1 : (pkA W o).e = 5 := by
        unfold pkA
        have hlk : lkE (W.x (frI o.w) o.t) (enI o.w) (wdG o.w) = 5 := by
          unfold lkE
          cases hz : atE (W.x (frI o.w) o.t) (enI o.w) with
          | none =>
            unfold wrE at s2
            rw [hz] at s2
            cases s2
          | some z =>
            simp only
            rw [s2, if_neg (by decide)]
        rw [if_pos s1, hlk, if_neg (by decide)]
        rfl
      exact ⟨by rw [e1]; decide, fun _ => e1⟩
    · rw [if_neg (by rw [hd]; decide), if_neg (by omega), if_neg (by omega), if_neg (by omega), if_neg (by omega), if_pos hd]
      have e1 : (clA W o).e = 5 := by
        unfold clA
        rw [if_pos s1, s2]
        rfl
      exact ⟨by rw [e1]; decide, fun _ => e1⟩
/-- An operation with an error tells nothing else, and changes no tenant. -/
theorem iss_err (he : (doA W o).e ≠ 0) : (∀ i, tn (doW W o) i = tn W i) ∧ (doA W o).k = 0 ∧ (doA W o).w = 0 := by
  cases hτ : tn W o.t with
  | none =>
    unfold doA doW
    rw [hτ]
    exact ⟨fun _ => rfl, rfl, rfl⟩
  | some τ =>
    by_cases hk : kOf o.d = 0
    · refine ⟨tn_t (doW_ten hk), ?_⟩
      unfold doA at he ⊢
      rw [hτ] at he ⊢
      simp only at he ⊢
      rw [if_neg (by omega)] at he ⊢
      split at he
      · rename_i h5
        rw [if_pos h5]
        unfold grA at he ⊢
        repeat' (split at he)
        all_goals (first | exact absurd rfl he | skip)
        all_goals (repeat' split)
        all_goals (first | exact ⟨rfl, rfl⟩ | contradiction)
      · rename_i h5
        rw [if_neg h5]
        split at he
        · rename_i h6
          rw [if_pos h6]
          unfold rvA
          split <;> exact ⟨rfl, rfl⟩
        · rename_i h6
          rw [if_neg h6]
          split at he
          · rename_i h7
            rw [if_pos h7]
            unfold acA at he ⊢
            split at he
            · rename_i ho
              rw [if_pos ho]
              cases hy : W.l.find? (ltB o.t o.n) with
              | none => exact ⟨rfl, rfl⟩
              | some y =>
                rw [hy] at he
                exact absurd rfl he
            · rename_i ho
              rw [if_neg ho]
              exact ⟨rfl, rfl⟩
          · rename_i h7
            rw [if_neg h7]
            split at he
            · rename_i h8
              rw [if_pos h8]
              unfold pkA at he ⊢
              split at he
              · rename_i hf
                rw [if_pos hf]
                split at he
                · rename_i hl
                  rw [if_pos hl]
                  cases hz : tn W (frI o.w) with
                  | none => exact ⟨rfl, rfl⟩
                  | some z =>
                    rw [hz] at he
                    simp only at he ⊢
                    unfold lookA at he ⊢
                    repeat' (split at he)
                    all_goals (first | exact absurd rfl he | skip)
                    all_goals (repeat' split)
                    all_goals (first | exact ⟨rfl, rfl⟩ | contradiction)
                · rename_i hl
                  rw [if_neg hl]
                  exact ⟨rfl, rfl⟩
              · rename_i hf
                rw [if_neg hf]
                exact ⟨rfl, rfl⟩
            · rename_i h8
              rw [if_neg h8]
              split
              · unfold clA
                split <;> exact ⟨rfl, rfl⟩
              · exact ⟨rfl, rfl⟩
    · have e1 : doW W o = setT W o.t ⟨τ.x, tnS τ.x o.t τ.s τ.c (actOf o), tnC τ.x τ.s τ.c (actOf o)⟩ := by unfold doW; rw [hτ]; simp only; rw [if_pos hk]
      have e2 : doA W o = tnA τ.x o.t τ.s τ.c (actOf o) := by unfold doA; rw [hτ]; simp only; rw [if_pos hk]
      rw [e2] at he ⊢
      obtain ⟨q1, q2, q3, q4⟩ := err_same (actOf o) he
      refine ⟨fun i => ?_, q2, q3⟩
      obtain ⟨t1, t2, _⟩ := tn_some hτ
      rw [e1, q1, q4, tn_setT t1]
      split
      · rename_i hh
        rw [hh.1, hτ]
      · rfl
end
end Wl
end Go.Proofs.YtdhgpmndgcggfaaGreatDoor

namespace Go.Proofs.YtdhgpmndgcggfaaGreatDoor
namespace Wl
open Hp Tn Px

structure LtI (W : Ws) : Prop where
  wf : ∀ i k, Wf (W.x i k)
  let_ : ∀ y ∈ W.l, isT W y.rc = true ∧ othB W y.rc y.fr = true ∧ ∃ x, atE (W.x y.fr y.rc) y.en = some x ∧ y.ge = x.g ∧ x.i ≠ 0
  nd : W.l.Nodup
/-- What waits for k, of i's. -/
def ibx (W : Ws) (i k : Int) : List Int := (W.l.filter (ltB k i)).map Lt.en
section
variable {W V : Ws} {o : Op} {τ y : Wt} {i k t w : Int} {e : List En}
theorem lt_is {z : Lt} : ltB t k z = true ↔ z.rc = t ∧ z.fr = k := by unfold ltB; simp
theorem LtI.setT (h : LtI W) (i : Int) (y : Wt) : LtI (setT W i y) := by
  have hT : ∀ k, isT (Wl.setT W i y) k = isT W k := fun k => by unfold isT Wl.setT; simp
  have hO : ∀ t k, othB (Wl.setT W i y) t k = othB W t k := fun t k => by unfold othB; rw [hT]
  exact ⟨h.wf, fun z hz => by rw [hT, hO]; exact h.let_ z hz, h.nd⟩
theorem LtI.tab (h : LtI W) (hw : Wf e) (h1 : ∀ z ∈ W.l, z.fr = i → z.rc = k → ∀ x, atE (W.x i k) z.en = some x → z.ge = x.g → x.i ≠ 0 → ∃ x', atE e z.en = some x' ∧ x'.g = x.g ∧ x'.i ≠ 0) : LtI (setX W i k e) := by
  refine ⟨fun u v => ?_, fun z hz => ?_, h.nd⟩
  · show Wf (upX W.x i k e u v)
    rw [upX_at]
    split
    · exact hw
    · exact h.wf u v
  · obtain ⟨l1, l2, x, hx, hg, hi⟩ := h.let_ z hz
    refine ⟨l1, l2, ?_⟩
    show ∃ x', atE (upX W.x i k e z.fr z.rc) z.en = some x' ∧ _
    rw [upX_at]
    split
    · rename_i hh
      rw [hh.1, hh.2] at hx
      obtain ⟨x', q1, q2, q3⟩ := h1 z hz hh.1 hh.2 x hx hg hi
      exact ⟨x', q1, by rw [q2]; exact hg, q3⟩
    · exact ⟨x, hx, hg, hi⟩
theorem LtI.rv (h : LtI W) (i k m : Int) : LtI (setX W i k (rvS (W.x i k) m)) := by
  refine h.tab ((h.wf i k).rv m) (fun z _ _ _ x hx _ hi => ?_)
  unfold rvS
  cases hm : atE (W.x i k) m with
  | none => exact ⟨x, hx, rfl, hi⟩
  | some q =>
    simp only
    split
    · rw [atE_set hm]
      split
      · rename_i e1
        rw [e1, hm] at hx
        obtain rfl := Option.some.inj hx
        exact ⟨_, rfl, rfl, by show (2 : Int) ≠ 0; decide⟩
      · exact ⟨x, hx, rfl, hi⟩
    · exact ⟨x, hx, rfl, hi⟩
theorem LtI.cl (h : LtI W) (hf : fdB W t w = true) : LtI (setX W (frI w) t (clS (W.x (frI w) t) (enI w) (wdG w))) := by
  obtain ⟨f1, f2, f3, f4⟩ := fd_is hf
  refine h.tab ((h.wf _ _).cl _ _) (fun z hz z1 z2 x hx hg hi => ?_)
  unfold clS
  cases hm : atE (W.x (frI w) t) (enI w) with
  | none => exact ⟨x, hx, rfl, hi⟩
  | some q =>
    simp only
    split
    · rename_i hw
      obtain ⟨q', hq', g1, g2⟩ := wr_ok hw
      rw [hm] at hq'
      obtain rfl := Option.some.inj hq'
      rw [atE_set hm]
      split
      · rename_i e1
        rw [e1, hm] at hx
        obtain rfl := Option.some.inj hx
        refine absurd ?_ (f4 z hz)
        cases z
        simp_all
      · exact ⟨x, hx, rfl, hi⟩
    · exact ⟨x, hx, rfl, hi⟩
theorem LtI.gr (h : LtI W) (hT : isT W k = true) (hO : othB W k i = true) {c g : Int} (he : grE (W.x i k) c g = 0) :
    LtI { (setX W i k (grS (W.x i k) c g)) with l := W.l ++ [⟨k, i, grV (W.x i k) c g, gnZ (W.x i k) (grV (W.x i k) c g)⟩] } := by
  obtain ⟨_, _, z, hz, z0, z1, hg, hv, hS⟩ := gr_ok he
  have hs := fun j => atE_set (y := ⟨1, z.g, c, g⟩) hz j
  rw [Int.toNat_natCast] at hs
  have h1 : LtI (setX W i k (grS (W.x i k) c g)) := by
    refine h.tab ((h.wf i k).gr c g) (fun y hy y1 y2 x hx hg hi => ?_)
    rw [hS, hs]
    split
    · rename_i e1
      rw [e1, hz] at hx
      obtain rfl := Option.some.inj hx
      exact absurd z0 hi
    · exact ⟨x, hx, rfl, hi⟩
  have hnew : ∀ y ∈ W.l, y ≠ ⟨k, i, grV (W.x i k) c g, gnZ (W.x i k) (grV (W.x i k) c g)⟩ := fun y hy e1 => by
    obtain ⟨_, _, x, hx, _, hi⟩ := h.let_ y hy
    rw [e1, hv] at hx
    rw [hz] at hx
    obtain rfl := Option.some.inj hx
    exact hi z0
  refine ⟨h1.wf, fun y hy => ?_, ?_⟩
  · rcases List.mem_append.1 hy with hy | hy
    · exact h1.let_ y hy
    · obtain rfl := List.mem_singleton.1 hy
      refine ⟨hT, hO, ?_⟩
      show ∃ x', atE (upX W.x i k (grS (W.x i k) c g) i k) (grV (W.x i k) c g) = some x' ∧ gnZ (W.x i k) (grV (W.x i k) c g) = x'.g ∧ _
      rw [upX_at, if_pos ⟨rfl, rfl⟩, hS, hv, hs, if_pos rfl, hg]
      exact ⟨_, rfl, rfl, by show (1 : Int) ≠ 0; decide⟩
  · show (W.l ++ [_]).Nodup
    rw [List.nodup_append]
    refine ⟨h.nd, by simp, fun y hy z' hz' => ?_⟩
    obtain rfl := List.mem_singleton.1 hz'
    exact hnew y hy
theorem LtI.ac (h : LtI W) (p : Lt → Bool) : LtI { W with l := W.l.eraseP p } :=
  ⟨h.wf, fun z hz => h.let_ z (List.mem_of_mem_eraseP hz), h.nd.sublist List.eraseP_sublist⟩
/-- Is it waiting, with that generation? -/
theorem waits_is (h : LtI W) (f t en g : Int) : (W.l.any fun y => samB y ⟨t, f, en, g⟩) = (gnZ (W.x f t) en == g && (ibx W f t).contains en) := by
  rw [Bool.eq_iff_iff, List.any_eq_true, Bool.and_eq_true, beq_iff_eq, List.contains_iff_mem]
  constructor
  · rintro ⟨y, hy, e⟩
    obtain rfl : y = _ := sam_iff.1 e
    obtain ⟨_, _, x, hx, hg, _⟩ := h.let_ _ hy
    refine ⟨?_, List.mem_map.2 ⟨_, List.mem_filter.2 ⟨hy, lt_is.2 ⟨rfl, rfl⟩⟩, rfl⟩⟩
    unfold gnZ
    rw [hx]
    exact hg.symm
  · rintro ⟨h1, h2⟩
    obtain ⟨y, hy, rfl⟩ := List.mem_map.1 h2
    obtain ⟨hy1, hy2⟩ := List.mem_filter.1 hy
    obtain ⟨rfl, rfl⟩ := lt_is.1 hy2
    obtain ⟨_, _, x, hx, hg, _⟩ := h.let_ _ hy1
    refine ⟨y, hy1, sam_iff.2 ?_⟩
    unfold gnZ at h1
    rw [hx] at h1
    simp only at h1
    rw [← h1, ← hg]
theorem ibx_in (h : LtI W) {j : Int} (hj : j ∈ ibx W i k) : 0 ≤ j ∧ j ≤ 7 := by
  obtain ⟨y, hy, rfl⟩ := List.mem_map.1 hj
  obtain ⟨hy1, hy2⟩ := List.mem_filter.1 hy
  obtain ⟨_, _, x, hx, _, _⟩ := h.let_ _ hy1
  exact at_len (h.wf _ _) hx
/-- What waits first. -/
theorem ibx_head (W : Ws) (i k : Int) : (W.l.find? (ltB k i)).map Lt.en = (ibx W i k)[0]? := by
  unfold ibx
  rw [← List.head?_filter]
  cases W.l.filter (ltB k i) <;> rfl
theorem first_ge (h : LtI W) {z : Lt} (hz : W.l.find? (ltB k i) = some z) : gnZ (W.x i k) z.en = z.ge ∧ z.rc = k ∧ z.fr = i ∧ (0 ≤ z.en ∧ z.en ≤ 7) ∧ 1 ≤ z.ge ∧ z.ge ≤ 4294967295 := by
  obtain ⟨rfl, rfl⟩ := lt_is.1 (List.find?_some hz)
  obtain ⟨_, _, x, hx, hg, _⟩ := h.let_ _ (List.mem_of_find?_eq_some hz)
  have hk := (h.wf _ _).at_ hx
  have := hk.g1
  have := hk.g2
  refine ⟨?_, rfl, rfl, at_len (h.wf _ _) hx, by omega, by omega⟩
  unfold gnZ
  rw [hx]
  exact hg.symm
theorem ibx_snoc (z : Lt) (u v : Int) : ibx { W with l := W.l ++ [z] } u v = if z.rc = v ∧ z.fr = u then ibx W u v ++ [z.en] else ibx W u v := by
  unfold ibx
  rw [List.filter_append]
  split
  · rename_i hh
    have : ltB v u z = true := lt_is.2 hh
    simp [this]
  · rename_i hh
    have : ltB v u z = false := by
      cases hb : ltB v u z
      · rfl
      · exact absurd (lt_is.1 hb) hh
    simp [this]
theorem tail_all {α : Type} {p : α → Bool} : ∀ {l : List α}, (∀ x ∈ l, p x = true) → l.eraseP p = l.tail
  | [], _ => rfl
  | x :: l, h => by rw [List.eraseP_cons_of_pos (h x (List.mem_cons_self ..))]; rfl
theorem ibx_acc (u v : Int) : ibx { W with l := W.l.eraseP (ltB t k) } u v = if t = v ∧ k = u then (ibx W u v).tail else ibx W u v := by
  unfold ibx
  show ((W.l.eraseP (ltB t k)).filter (ltB v u)).map Lt.en = _
  split
  · rename_i hh
    obtain ⟨rfl, rfl⟩ := hh
    rw [eraseP_on (fun _ h => h), tail_all (fun x hx => (List.mem_filter.1 hx).2), List.map_tail]
  · rename_i hh
    rw [eraseP_off (fun y hy => ?_)]
    cases hb : ltB v u y
    · rfl
    · obtain ⟨rfl, rfl⟩ := lt_is.1 hy
      exact absurd (lt_is.1 hb) hh
theorem ibx_tail (h : W.l.find? (ltB k i) = none) : ibx W i k = [] := by
  unfold ibx
  have : W.l.filter (ltB k i) = [] := by
    rw [List.filter_eq_nil_iff]
    intro a ha
    exact List.find?_eq_none.1 h a ha
  rw [this]
  rfl
theorem few_of : ∀ (n : Nat) {l : List Int}, l.Nodup → (∀ x ∈ l, 0 ≤ x ∧ x < n) → l.length ≤ n
  | 0, l, _, h => by
    cases l with
    | nil => exact Nat.le_refl _
    | cons x l => have := h x (List.mem_cons_self ..); omega
  | n + 1, l, hn, h => by
    by_cases hm : (n : Int) ∈ l
    · have h1 := few_of n (hn.erase (n : Int)) (fun x hx => by
        obtain ⟨e1, e2⟩ := (hn.mem_erase_iff).1 hx
        have := h x e2
        omega)
      rw [List.length_erase_of_mem hm] at h1
      omega
    · have h1 := few_of n hn (fun x hx => by
        have := h x hx
        have : x ≠ n := fun e => hm (e ▸ hx)
        omega)
      omega
/-- Which waiting entries there can be: few. -/
theorem ibx_len (h : LtI W) (i k : Int) : (ibx W i k).length ≤ 8 := by
  have hn : (ibx W i k).Nodup := by
    unfold ibx
    refine List.pairwise_map.2 (List.Pairwise.imp_of_mem (R := fun x y => x ≠ y) (fun {x y} hx hy hne e => hne ?_) (h.nd.sublist List.filter_sublist))
    obtain ⟨x1, x2⟩ := List.mem_filter.1 hx
    obtain ⟨y1, y2⟩ := List.mem_filter.1 hy
    obtain ⟨a1, a2⟩ := lt_is.1 x2
    obtain ⟨b1, b2⟩ := lt_is.1 y2
    obtain ⟨_, _, p, hp, hpg, _⟩ := h.let_ _ x1
    obtain ⟨_, _, q, hq, hqg, _⟩ := h.let_ _ y1
    rw [a1, a2, e] at hp
    rw [b1, b2, hp] at hq
    obtain rfl := Option.some.inj hq
    cases x; cases y
    simp_all
  exact few_of 8 hn (fun x hx => by have := ibx_in h hx; omega)
end
end Wl
end Go.Proofs.YtdhgpmndgcggfaaGreatDoor

namespace Go.Proofs.YtdhgpmndgcggfaaGreatDoor
namespace Tn
open Hp Go.RowKit
end Tn
end Go.Proofs.YtdhgpmndgcggfaaGreatDoor

namespace Go.Proofs.YtdhgpmndgcggfaaGreatDoor
namespace Wl
open Hp Tn Px

def Op.ok (o : Op) : Prop := i64ok o.d ∧ i64ok o.t ∧ u64ok o.w ∧ u64ok o.o ∧ i64ok o.n ∧ i64ok o.m
def preW (xs : List Op) (a b : Int) (whole : Bool) (i : Nat) (W : Ws) : Ws :=
  if whole = true then W else match xs[i]? with
    | some x => if btw { x with t := a } a b = true then W else doW W { x with t := a }
    | none => W
def skB (o : Op) (a b : Int) (whole : Bool) : Bool := (o.t == a && !whole) || btw o a b
/-- What is told to b, and the world behind, by the first k operations. -/
def runT (W0 : Ws) (ops xs : List Op) (a b : Int) (whole : Bool) : Nat → Ws × List An
  | 0 => (W0, [])
  | k + 1 => match ops[k]? with
    | none => runT W0 ops xs a b whole k
    | some o => if skB o a b whole = true then (preW xs a b whole k (runT W0 ops xs a b whole k).1, (runT W0 ops xs a b whole k).2)
      else (doW (preW xs a b whole k (runT W0 ops xs a b whole k).1) o, (runT W0 ops xs a b whole k).2 ++ if o.t == b then [doA (preW xs a b whole k (runT W0 ops xs a b whole k).1) o] else [])
section
variable {W V W0 : Ws} {ops xs : List Op} {a b : Int} {o : Op} {τ : Wt} {n k : Nat}
theorem pre_like (L : Like a b W V) : Like a b W (preW xs a b false k V) := by
  unfold preW
  rw [if_neg (by decide)]
  cases hx : xs[k]? with
  | none => exact L
  | some x =>
    simp only
    split
    · exact L
    · rename_i hb
      exact (L.symm.off (off_do (o := { x with t := a }) (by simpa using hb) rfl)).symm
/-- Both runs, side by side. -/
theorem run_like (hab : a ≠ b) (h0 : Like a b W0 W0) : ∀ k, Like a b (runT W0 ops xs a b true k).1 (runT W0 ops xs a b false k).1 ∧ (runT W0 ops xs a b true k).2 = (runT W0 ops xs a b false k).2
  | 0 => ⟨h0, rfl⟩
  | k + 1 => by
    obtain ⟨L, e⟩ := run_like hab h0 k
    unfold runT
    cases ho : ops[k]? with
    | none => exact ⟨L, e⟩
    | some o =>
      simp only
      have hp : preW xs a b true k (runT W0 ops xs a b true k).1 = (runT W0 ops xs a b true k).1 := by unfold preW; rw [if_pos rfl]
      rw [hp]
      have L2 := pre_like (xs := xs) (k := k) L
      generalize preW xs a b false k (runT W0 ops xs a b false k).1 = V at *
      generalize (runT W0 ops xs a b true k).1 = W at *
      by_cases hb : btw o a b = true
      · have s1 : skB o a b true = true := by unfold skB; rw [hb]; simp
        have s2 : skB o a b false = true := by unfold skB; rw [hb]; simp
        rw [if_pos s1, if_pos s2]
        exact ⟨L2, e⟩
      · have hb' : btw o a b = false := by simpa using hb
        have s1 : skB o a b true = false := by unfold skB; rw [hb']; simp
        have s1' : ¬ skB o a b true = true := by rw [s1]; decide
        rw [if_neg s1']
        by_cases ht : o.t = a
        · have s2 : skB o a b false = true := by unfold skB; simp [ht]
          have hob : (o.t == b) = false := by rw [ht]; simpa using hab
          rw [if_pos s2, hob]
          refine ⟨L2.off (off_do hb' ht), ?_⟩
          simpa using e
        · have s2 : skB o a b false = false := by unfold skB; rw [hb']; simp [ht]
          have s2' : ¬ skB o a b false = true := by rw [s2]; decide
          rw [if_neg s2']
          refine ⟨like_do L2 hb' ht, ?_⟩
          rw [e]
          by_cases hob : o.t = b
          · rw [like_ans L2 hb' hob]
          · have : (o.t == b) = false := by simpa using hob
            rw [this]
            simp
theorem run_same (hab : a ≠ b) (ls : List Sh) (k : Nat) : (runT (beginW ls) ops xs a b true k).2 = (runT (beginW ls) ops xs a b false k).2 :=
  (run_like hab (Like.refl hab ⟨rfl, rfl⟩ (fun _ hy => (List.not_mem_nil hy).elim)) k).2
theorem tn_mem (h : tn W a = some τ) : τ ∈ W.t := by
  unfold tn at h
  split at h
  · cases h
  · exact List.mem_of_getElem? h
/-- Bounds: behind n operations. -/
def Wbd (n : Nat) (W : Ws) : Prop := ∀ τ ∈ W.t, τ.s.ch ≤ 65536 * n ∧ τ.s.all.length ≤ n
theorem Wbd.ok (h : Wbd n W) (hn : n ≤ 700) : ∀ τ ∈ W.t, τ.s.ch ≤ 4611686018427300000 ∧ τ.s.all.length ≤ 800 := fun τ hτ => by
  have := h τ hτ
  omega
theorem Wbd.more (h : Wbd n W) (hk : n ≤ k) : Wbd k W := fun τ hτ => by have := h τ hτ; omega
theorem act_ok (ho : o.ok) : (actOf o).ok := ⟨⟨(kOf_le o.d).1, by have := (kOf_le o.d).2; show kOf o.d ≤ 255; omega⟩, ho.2.2.1, ho.2.2.2.1, ho.2.2.2.2.1, ho.2.2.2.2.2⟩
theorem doW_cases (W : Ws) (o : Op) : (doW W o).t = W.t ∨ ∃ σ, tn W o.t = some σ ∧ doW W o = setT W o.t ⟨σ.x, tnS σ.x o.t σ.s σ.c (actOf o), tnC σ.x σ.s σ.c (actOf o)⟩ := by
  by_cases hk : kOf o.d = 0
  · exact Or.inl (doW_ten hk)
  · cases hσ : tn W o.t with
    | none =>
      left
      unfold doW
      rw [hσ]
    | some σ =>
      right
      refine ⟨σ, rfl, ?_⟩
      unfold doW
      rw [hσ]
      simp only
      rw [if_pos hk]
theorem setT_mem {i : Int} {y : Wt} (h : τ ∈ (setT W i y).t) : τ = y ∨ τ ∈ W.t := by
  unfold setT at h
  rcases List.mem_or_eq_of_mem_set h with h | h
  · exact Or.inr h
  · exact Or.inl h
theorem Wbd.do_ (h : Wbd n W) (hn : n ≤ 700) (ho : o.ok) (hcr : ∀ τ, tn W o.t = some τ → ∃ pc, CR τ.x τ.c pc τ.s) : Wbd (n + 1) (doW W o) := by
  rcases doW_cases W o with e | ⟨σ, hσ, e⟩
  · intro τ hτ
    rw [e] at hτ
    have := h τ hτ
    omega
  · intro τ hτ
    rw [e] at hτ
    rcases setT_mem hτ with rfl | hτ
    · obtain ⟨pc, hc⟩ := hcr σ hσ
      have h1 := h σ (tn_mem hσ)
      have h2 := tn_bounds (N := o.t) hc (by omega) (by omega) (vals_small hc.ok) (actOf o) (act_ok ho)
      simp only
      omega
    · have := h τ hτ
      omega
theorem Wbd.begin (l : List Sh) (hl : ∀ x ∈ l, x.may = true) : Wbd 0 (beginW l) := fun τ hτ => by
  obtain ⟨x, hx, rfl⟩ := List.mem_map.1 hτ
  simp only
  rw [init_all14 (hl x hx)]
  exact ⟨by show (0 : Int) ≤ _; omega, Nat.le_refl _⟩
theorem t_ext (h : ∀ i, tn V i = tn W i) : V.t = W.t := by
  apply List.ext_getElem?
  intro k
  have := h (k + 1)
  unfold tn at this
  rw [if_neg (by omega), if_neg (by omega), show ((k : Int) + 1 - 1).toNat = k by omega] at this
  exact this
end
end Wl
end Go.Proofs.YtdhgpmndgcggfaaGreatDoor

namespace Go.Proofs.YtdhgpmndgcggfaaGreatDoor
namespace Wl
open Hp Tn Px

section
variable {W V : Ws} {wd : List Wd} {o : Op} {τ : Wt} {n : Nat} {ls : List Sh}
theorem root_k {N i : Int} {s : Hs} {x : Sh} (hok : Ok x s) (hi : 0 ≤ i ∧ i ≤ 67108863) : wdK (ptrA N s i).w = 1 := (wrd_of hi.1 hi.2 (gen_bds hok i).1 (gen_bds hok i).2).1
theorem root_word {x : Sh} {N : Int} {s : Hs} {c : Cs} (hok : Ok x s) (o : Op) (h : (tnA x N s c (actOf o)).k = 2) : wdK (tnA x N s c (actOf o)).w = 1 := by
  have no : ∀ {e : Int}, (wrong e).k = 2 → False := fun h => by cases h
  have nd : ∀ {e : Int}, (datum e).k = 2 → False := fun h => by cases h
  have hk := kOf_le o.d
  have hx := (Sh.wd_is hok.may).2.2
  unfold tnA at h ⊢
  have h9 : ¬ (actOf o).k % 10 = 9 := by show ¬ kOf o.d % 10 = 9; omega
  split at h
  · exact (no h).elim
  rename_i e2
  rw [if_neg e2]
  split at h
  · rename_i e3
    rw [if_pos e3]
    unfold loadA at h ⊢
    split at h
    · rename_i e4
      rw [if_pos e4]
      split at h
      · rename_i e5
        rw [if_pos e5]
        split at h
        · rename_i e6
          rw [if_pos e6]
          exact root_k (hok.ho _).1 (ho_in hok e6)
        · exact (no h).elim
      · rename_i e5
        exact absurd h e5
    · exact (no h).elim
  rename_i e3
  rw [if_neg e3]
  split at h
  · exact (no h).elim
  rename_i e4
  rw [if_neg e4]
  split at h
  · exact (no h).elim
  rename_i e5
  rw [if_neg e5]
  split at h
  · split at h
    · exact (nd h).elim
    · exact (no h).elim
  rename_i e6
  rw [if_neg e6]
  split at h
  · split at h
    · exact (nd h).elim
    · exact (no h).elim
  rename_i e7
  rw [if_neg e7]
  split at h
  · exact (nd h).elim
  rename_i e8
  rw [if_neg e8]
  rw [if_neg h9]
  unfold allocA at h ⊢
  split at h
  · rename_i e10
    rw [if_pos e10]
    obtain ⟨i, z, b1, hi, _⟩ := al_yes hok e10
    have hv : alV x s (actOf o).n = i := by unfold alV; rw [if_pos e10, b1]
    rw [hv]
    exact root_k (hok.al _).1 (by omega)
  · exact (no h).elim
theorem beg_tn {i : Int} (h : tn (beginW ls) i = some τ) : ∃ x ∈ ls, τ = ⟨x, Hs.init x, Cs.init⟩ := by
  obtain ⟨x, hx, rfl⟩ := List.mem_map.1 (tn_mem h)
  exact ⟨x, hx, rfl⟩
theorem EntI.begin (hl : ls.length ≤ 16) : EntI (beginW ls) [] := by
  refine ⟨by show (ls.map _).length ≤ 16; rw [List.length_map]; exact hl, fun _ _ => Wf.beg, fun _ h => (List.not_mem_nil h).elim, fun _ h => (List.not_mem_nil h).elim, fun _ h => (List.not_mem_nil h).elim, fun i k e x _ _ hx hi => ?_, List.nodup_nil, fun _ h => (List.not_mem_nil h).elim⟩
  have := begL_at e x hx
  rw [this] at hi
  exact absurd rfl hi
theorem TenI.begin : TenI (beginW ls) [] :=
  ⟨fun i τ h => by
    obtain ⟨x, _, rfl⟩ := beg_tn h
    exact ⟨[], Told.nil rfl, fun _ h => (List.not_mem_nil h).elim⟩, fun _ h => (List.not_mem_nil h).elim⟩
/-- What the law keeps, and what holds beside it. -/
structure IsI (n : Nat) (W : Ws) (wd : List Wd) : Prop where
  ent : EntI W wd
  ten : TenI W wd
  bd : Wbd n W
theorem IsI.do_ (h : IsI n W wd) (hn : n ≤ 700) (ho : o.ok) (hcr : ∀ τ, tn W o.t = some τ → ∃ pc, CR τ.x τ.c pc τ.s) : IsI (n + 1) (doW W o) (upI wd o (doA W o)) := by
  refine ⟨ent_do h.ent (fun τ hτ hk => ?_), ten_do h.ten (fun τ hτ => ?_), h.bd.do_ hn ho hcr⟩
  · obtain ⟨pc, hc⟩ := hcr τ hτ
    exact root_word hc.ok o hk
  · obtain ⟨pc, hc⟩ := hcr τ hτ
    exact ⟨pc, hc, (h.bd.ok hn τ (tn_mem hτ)).1⟩
theorem IsI.begin (hl : ls.length ≤ 16) (hm : ∀ x ∈ ls, x.may = true) : IsI 0 (beginW ls) [] := ⟨EntI.begin hl, TenI.begin, Wbd.begin ls hm⟩
end
end Wl
end Go.Proofs.YtdhgpmndgcggfaaGreatDoor
