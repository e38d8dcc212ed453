/- Plain words for cells in an arena: where each one's words stand, what they are, and what each act leaves. -/
import Derived.Test.YtplneoapcadlnaaDoorFreeN
import Derived.Test.YtplneoapcadlnaaDoorLayArena
import Derived.Test.YtplneoapcadlnaaDoorLayHead
import Derived.Test.YtplneoapcadlnaaDoorLayWord
namespace Go.Proofs.YtplneoapcadlnaaDoor
open Go.RowKit

/-- Where a cell's header stands, from the share's first word on; how many slots it has; how many words the share has. -/
def Sh.at_ (x : Sh) (i : Nat) : Nat := (atZ x.a x.b x.c x.q x.s i).toNat
def Sh.sl (x : Sh) (i : Nat) : Nat := (slotsZ (x.cz i)).toNat
def Sh.wd (x : Sh) : Nat := (wordsZ x.a x.b x.c x.q x.s).toNat
section
variable {x : Sh}
theorem Sh.nums (hm : x.may = true) : ∃ A B C : Nat, x.a = A ∧ x.b = B ∧ x.c = C ∧ A ≤ 64 ∧ B ≤ 64 ∧ C ≤ 64 ∧ x.n = A + B + C ∧ x.wd = 2 * A + 3 * B + 5 * C ∧
    (∀ i : Nat, x.cz i = if i < A then 0 else if i < A + B then 1 else if i < A + B + C then 2 else -1) ∧
    (∀ i : Nat, atZ x.a x.b x.c x.q x.s i = if i < A then (2 * i : Int) else if i < A + B then 2 * A + 3 * (i - A) else if i < A + B + C then 2 * A + 3 * B + 5 * (i - A - B) else -1) := by
  have h' : mayB x.a x.b x.c x.q x.s = true := hm
  obtain ⟨A, B, C, ea, eb, ec⟩ := nats_of h'
  obtain ⟨ha, hb, hc, _, _⟩ := mayB_iff.1 h'
  refine ⟨A, B, C, ea, eb, ec, by omega, by omega, by omega, ?_, ?_, fun i => ?_, fun i => ?_⟩
  · unfold Sh.n; omega
  · unfold Sh.wd wordsZ
    rw [if_pos h', ea, eb, ec]
    omega
  · unfold Sh.cz classZ
    rw [if_pos ⟨h', by omega⟩, ea, eb, ec]
    by_cases h1 : i < A
    · rw [if_pos (by omega), if_pos h1]
    · rw [if_neg (by omega), if_neg h1]
      by_cases h2 : i < A + B
      · rw [if_pos (by omega), if_pos h2]
      · rw [if_neg (by omega), if_neg h2]
        by_cases h3 : i < A + B + C
        · rw [if_pos (by omega), if_pos h3]
        · rw [if_neg (by omega), if_neg h3]
  · unfold atZ
    rw [if_pos ⟨h', by omega⟩, ea, eb, ec]
    by_cases h1 : i < A
    · rw [if_pos (by omega), if_pos h1]
    · rw [if_neg (by omega), if_neg h1]
      by_cases h2 : i < A + B
      · rw [if_pos (by omega), if_pos h2]
      · rw [if_neg (by omega), if_neg h2]
        by_cases h3 : i < A + B + C
        · rw [if_pos (by omega), if_pos h3]
        · rw [if_neg (by omega), if_neg h3]
theorem slotsZ_at (A B C i : Nat) : slotsZ (if i < A then 0 else if i < A + B then 1 else if i < A + B + C then 2 else -1) = if i < A then 1 else if i < A + B then 2 else if i < A + B + C then 4 else 0 := by
  by_cases h1 : i < A
  · rw [if_pos h1, if_pos h1]; rfl
  · rw [if_neg h1, if_neg h1]
    by_cases h2 : i < A + B
    · rw [if_pos h2, if_pos h2]; rfl
    · rw [if_neg h2, if_neg h2]
      by_cases h3 : i < A + B + C
      · rw [if_pos h3, if_pos h3]; rfl
      · rw [if_neg h3, if_neg h3]; rfl
theorem Sh.at_is (hm : x.may = true) {i : Nat} (hi : i < x.n) : atZ x.a x.b x.c x.q x.s i = (x.at_ i : Int) := by
  obtain ⟨A, B, C, _, _, _, _, _, _, hn, _, _, hat⟩ := Sh.nums hm
  unfold Sh.at_
  rw [hat i]
  split
  · omega
  · split
    · omega
    · split <;> omega
theorem Sh.sl_is (hm : x.may = true) (i : Nat) : slotsZ (x.cz i) = (x.sl i : Int) ∧ x.sl i ≤ 4 ∧ (i < x.n → 1 ≤ x.sl i) ∧ (x.n ≤ i → x.sl i = 0) := by
  obtain ⟨A, B, C, _, _, _, _, _, _, hn, _, hcz, _⟩ := Sh.nums hm
  unfold Sh.sl
  rw [hcz i, slotsZ_at]
  split
  · omega
  · split
    · omega
    · split <;> omega
theorem Sh.sl_out (hm : x.may = true) (n : Int) (h : inN n x.n = false) : slotsZ (x.cz n) = 0 := by
  have := inN_out h
  by_cases h0 : 0 ≤ n
  · obtain ⟨i, rfl⟩ : ∃ i : Nat, n = i := ⟨n.toNat, by omega⟩
    have := Sh.sl_is hm i
    omega
  · unfold Sh.cz
    rw [classZ, if_neg (by omega)]
    rfl
theorem Sh.wd_is (hm : x.may = true) : wordsZ x.a x.b x.c x.q x.s = (x.wd : Int) ∧ x.wd ≤ 640 ∧ x.n ≤ 192 := by
  have := wordsZ_bd x.a x.b x.c x.q x.s
  have := (x.count hm).2
  unfold Sh.wd
  omega
theorem Sh.at_in (hm : x.may = true) {i : Nat} (hi : i < x.n) : x.at_ i + 1 + x.sl i ≤ x.wd := by
  obtain ⟨A, B, C, _, _, _, _, _, _, hn, hw, hcz, hat⟩ := Sh.nums hm
  have h1 : (x.at_ i : Int) = _ := (Sh.at_is hm hi).symm.trans (hat i)
  have h2 := (Sh.sl_is hm i).1
  rw [hcz i, slotsZ_at] at h2
  split at h1
  · rw [if_pos (by assumption)] at h2; omega
  · rw [if_neg (by assumption)] at h2
    split at h1
    · rw [if_pos (by assumption)] at h2; omega
    · rw [if_neg (by assumption)] at h2
      split at h1
      · rw [if_pos (by assumption)] at h2; omega
      · omega
theorem Sh.at_step (hm : x.may = true) {i : Nat} (hi : i + 1 < x.n) : x.at_ (i + 1) = x.at_ i + 1 + x.sl i := by
  obtain ⟨A, B, C, _, _, _, _, _, _, hn, hw, hcz, hat⟩ := Sh.nums hm
  have h1 : (x.at_ i : Int) = _ := (Sh.at_is hm (by omega)).symm.trans (hat i)
  have h3 : (x.at_ (i + 1) : Int) = _ := (Sh.at_is hm hi).symm.trans (hat (i + 1))
  have h2 := (Sh.sl_is hm i).1
  rw [hcz i, slotsZ_at] at h2
  split at h1
  · rw [if_pos (by assumption)] at h2
    split at h3
    · omega
    · split at h3
      · omega
      · split at h3 <;> omega
  · rw [if_neg (by assumption)] at h2
    rw [if_neg (by omega)] at h3
    split at h1
    · rw [if_pos (by assumption)] at h2
      split at h3
      · omega
      · split at h3 <;> omega
    · rw [if_neg (by assumption)] at h2
      rw [if_neg (by omega)] at h3
      split at h1
      · rw [if_pos (by assumption)] at h2
        split at h3 <;> omega
      · omega
theorem Sh.at_apart (hm : x.may = true) {i : Nat} : ∀ d : Nat, i + 1 + d < x.n → x.at_ i + 1 + x.sl i ≤ x.at_ (i + 1 + d)
  | 0, h => Nat.le_of_eq (Sh.at_step hm h).symm
  | d + 1, h => by
    have h1 := Sh.at_apart hm (i := i) d (by omega)
    have h2 := Sh.at_step hm (i := i + 1 + d) (by omega)
    have e : i + 1 + (d + 1) = i + 1 + d + 1 := by omega
    rw [e]
    omega
theorem Sh.at_lt (hm : x.may = true) {i j : Nat} (hij : i < j) (hj : j < x.n) : x.at_ i + 1 + x.sl i ≤ x.at_ j := by
  obtain ⟨d, rfl⟩ : ∃ d, j = i + 1 + d := ⟨j - (i + 1), by omega⟩
  exact Sh.at_apart hm d hj
end

/-- A value as it lies in a slot. -/
structure Vl where
  k : Int
  n : Int
def Vl.cells (y : Vl) : List Value := [.int .i64 y.k, .int .u64 y.n]
theorem Vl.cells_len (y : Vl) : y.cells.length = 2 := rfl
def Vl.nil : Vl := ⟨0, 0⟩
def Vl.ok (y : Vl) : Prop := 0 ≤ y.n ∧ Wd.rightB y.k y.n = true
def Vl.w (y : Vl) : Int := Wd.encV y.k y.n
theorem Vl.nil_ok : Vl.nil.ok := ⟨by decide, by decide⟩
theorem Vl.nil_w : Vl.nil.w = 0 := rfl
def nils (n : Nat) : List Vl := List.replicate n Vl.nil

theorem zeros_at (L : List Int) (a : Nat) : ∀ (n j : Nat), (zeros L a n)[j]? = if a ≤ j ∧ j < a + n then L[j]?.map (fun _ => 0) else L[j]? := by
  intro n
  induction n with
  | zero => intro j; rw [if_neg (by omega)]; rfl
  | succ n ih =>
    intro j
    simp only [zeros, List.getElem?_set]
    by_cases e : a + n = j
    · subst e
      rw [if_pos rfl, zeros_length, if_pos (show a ≤ a + n ∧ a + n < a + (n + 1) by omega)]
      by_cases hl : a + n < L.length
      · rw [if_pos hl, List.getElem?_eq_getElem hl]; rfl
      · rw [if_neg hl, List.getElem?_eq_none (by omega)]; rfl
    · rw [if_neg e, ih]
      by_cases h : a ≤ j ∧ j < a + n
      · rw [if_pos h, if_pos (by omega)]
      · rw [if_neg h, if_neg (by omega)]
/-- What 'lay' leaves of an arena's words. -/
def layL (x : Sh) (bs : Nat) (L : List Int) (i : Nat) (g : Int) (t : Bool) : List Int := zeros (L.set (bs + x.at_ i) (Hd.encZ g 0 t)) (bs + x.at_ i + 1) (x.sl i)

/-- An arena's words L are those of cells, the first m of them; elsewhere they are as L0's. -/
structure RepTo (m : Nat) (x : Sh) (bs : Nat) (L0 : List Int) (cs : List St) (ct : List Int) (vs : List (List Vl)) (L : List Int) : Prop where
  may : x.may = true
  len : cs.length = x.n ∧ ct.length = x.n ∧ vs.length = x.n
  fit : bs + x.wd ≤ L.length ∧ L.length = L0.length ∧ L.length ≤ 65536
  slots : ∀ (i : Nat) (l : List Vl), vs[i]? = some l → l.length = x.sl i
  cok : ∀ (i : Nat) (c : Int), ct[i]? = some c → 0 ≤ c ∧ c ≤ 2147483647
  vok : ∀ (i : Nat) (l : List Vl), vs[i]? = some l → ∀ y ∈ l, y.ok
  dead : ∀ (i : Nat) (z : St), cs[i]? = some z → z.t = false → ct[i]? = some 0 ∧ vs[i]? = some (nils (x.sl i))
  head : ∀ (i : Nat) (z : St) (c : Int), i < m → cs[i]? = some z → ct[i]? = some c → L[bs + x.at_ i]? = some (Hd.encZ z.g c z.t)
  slot : ∀ (i : Nat) (l : List Vl) (k : Nat) (y : Vl), i < m → vs[i]? = some l → l[k]? = some y → L[bs + x.at_ i + 1 + k]? = some y.w
  out : ∀ j : Nat, (j < bs ∨ bs + x.wd ≤ j) → L[j]? = L0[j]?
section
variable {m : Nat} {x : Sh} {bs : Nat} {L0 L : List Int} {cs : List St} {ct : List Int} {vs : List (List Vl)}
theorem RepTo.less (h : RepTo m x bs L0 cs ct vs L) {m' : Nat} (hm : m' ≤ m) : RepTo m' x bs L0 cs ct vs L :=
  ⟨h.may, h.len, h.fit, h.slots, h.cok, h.vok, h.dead, fun i z c hi => h.head i z c (by omega), fun i l k y hi => h.slot i l k y (by omega), h.out⟩
/-- A cell's words, and those of another one. -/
theorem RepTo.far (h : RepTo m x bs L0 cs ct vs L) {i j : Nat} (hi : i < x.n) (hj : j < x.n) (hij : i ≠ j) {k d : Nat} (hk : k ≤ x.sl i) (hd : d ≤ x.sl j) : bs + x.at_ i + k ≠ bs + x.at_ j + d := by
  rcases Nat.lt_or_gt_of_ne hij with hlt | hlt
  · have := Sh.at_lt h.may hlt hj; omega
  · have := Sh.at_lt h.may hlt hi; omega
theorem set_any {X : Type} (l : List X) (i j : Nat) (y : X) : (l.set i y)[j]? = if i = j then (if i < l.length then some y else none) else l[j]? := by
  rw [List.getElem?_set]
/-- 'lay': a cell's words are those of no count and no values. -/
theorem RepTo.lay (h : RepTo m x bs L0 cs ct vs L) {i : Nat} (hi : i < x.n) (z : St) {m' : Nat} (hm : ∀ j, j < m' → j < m ∨ j = i) : RepTo m' x bs L0 (cs.set i z) (ct.set i 0) (vs.set i (nils (x.sl i))) (layL x bs L i z.g z.t) := by
  obtain ⟨l1, l2, l3⟩ := h.len
  obtain ⟨f1, f2, f3⟩ := h.fit
  have hin := Sh.at_in h.may hi
  have hll : (layL x bs L i z.g z.t).length = L.length := by unfold layL; rw [zeros_length, List.length_set]
  have hat : ∀ j, (layL x bs L i z.g z.t)[j]? = if bs + x.at_ i = j then some (Hd.encZ z.g 0 z.t) else if bs + x.at_ i + 1 ≤ j ∧ j < bs + x.at_ i + 1 + x.sl i then some 0 else L[j]? := by
    intro j
    unfold layL
    rw [zeros_at, set_any]
    by_cases e : bs + x.at_ i = j
    · rw [if_neg (by omega), if_pos e, if_pos e, if_pos (by omega)]
    · rw [if_neg e, if_neg e]
      by_cases e2 : bs + x.at_ i + 1 ≤ j ∧ j < bs + x.at_ i + 1 + x.sl i
      · rw [if_pos e2, if_pos e2, List.getElem?_eq_getElem (by omega)]; rfl
      · rw [if_neg e2, if_neg e2]
  refine ⟨h.may, by simp [l1, l2, l3], by rw [hll]; exact h.fit, fun j l hl => ?_, fun j c hc => ?_, fun j l hl => ?_, fun j z' hz ht => ?_, fun j z' c hj hz hc => ?_, fun j l k y hj hl hy => ?_, fun j hj => ?_⟩
  · rw [set_any] at hl
    split at hl
    · next e => subst e; rw [if_pos (by omega)] at hl; obtain rfl := Option.some.inj hl; simp [nils]
    · exact h.slots j l hl
  · rw [set_any] at hc
    split at hc
    · next e => subst e; rw [if_pos (by omega)] at hc; obtain rfl := Option.some.inj hc; omega
    · exact h.cok j c hc
  · rw [set_any] at hl
    split at hl
    · next e =>
      subst e; rw [if_pos (by omega)] at hl; obtain rfl := Option.some.inj hl
      intro y hy
      rw [List.eq_of_mem_replicate hy]
      exact Vl.nil_ok
    · exact h.vok j l hl
  · rw [set_any] at hz ⊢
    rw [set_any]
    split at hz
    · next e => rw [if_pos e, if_pos e, if_pos (by omega), if_pos (by omega), e]; exact ⟨rfl, rfl⟩
    · next e => rw [if_neg e, if_neg e]; exact h.dead j z' hz ht
  · rw [set_any] at hz hc
    rw [hat]
    by_cases e : i = j
    · subst e
      rw [if_pos rfl, if_pos (by omega)] at hz hc
      obtain rfl := Option.some.inj hz
      obtain rfl := Option.some.inj hc
      rw [if_pos rfl]
    · rw [if_neg e] at hz hc
      have hjn : j < x.n := by have := (List.getElem?_eq_some_iff.1 hz).1; omega
      have q := fun k (hk : k ≤ x.sl i) => h.far hi hjn e hk (Nat.zero_le (x.sl j))
      have q0 := q 0 (by omega)
      rw [if_neg (by omega), if_neg ?_]
      · exact h.head j z' c ((hm j hj).elim id fun h => absurd h.symm e) hz hc
      · intro hh
        have := q (bs + x.at_ j - (bs + x.at_ i)) (by omega)
        omega
  · rw [set_any] at hl
    rw [hat]
    by_cases e : i = j
    · subst e
      rw [if_pos rfl, if_pos (by omega)] at hl
      obtain rfl := Option.some.inj hl
      have hk : k < x.sl i := by have := (List.getElem?_eq_some_iff.1 hy).1; simpa [nils] using this
      have hy' : y = Vl.nil := List.eq_of_mem_replicate (List.mem_of_getElem? hy)
      subst hy'
      rw [if_neg (by omega), if_pos (by omega), Vl.nil_w]
    · rw [if_neg e] at hl
      have hjn : j < x.n := by have := (List.getElem?_eq_some_iff.1 hl).1; omega
      have hk : k < x.sl j := by have := (List.getElem?_eq_some_iff.1 hy).1; rw [h.slots j l hl] at this; exact this
      have q := fun d (hd : d ≤ x.sl i) => h.far hi hjn e hd (show 1 + k ≤ x.sl j by omega)
      have q0 := q 0 (by omega)
      rw [if_neg (by omega), if_neg ?_]
      · exact h.slot j l k y ((hm j hj).elim id fun h => absurd h.symm e) hl hy
      · intro hh
        have := q (bs + x.at_ j + 1 + k - (bs + x.at_ i)) (by omega)
        omega
  · rw [hat, if_neg (by omega), if_neg (by omega)]
    exact h.out j hj
/-- A count. -/
theorem RepTo.count (h : RepTo m x bs L0 cs ct vs L) {i : Nat} {z : St} (hz : cs[i]? = some z) (ht : z.t = true) (c : Int) (hc : 0 ≤ c ∧ c ≤ 2147483647) : RepTo m x bs L0 cs (ct.set i c) vs (L.set (bs + x.at_ i) (Hd.encZ z.g c z.t)) := by
  obtain ⟨l1, l2, l3⟩ := h.len
  obtain ⟨f1, f2, f3⟩ := h.fit
  have hi : i < x.n := by have := (List.getElem?_eq_some_iff.1 hz).1; omega
  have hin := Sh.at_in h.may hi
  refine ⟨h.may, by simp [l1, l2, l3], by simpa using h.fit, h.slots, fun j c' hc' => ?_, h.vok, fun j z' hz' ht' => ?_, fun j z' c' hj hz' hc' => ?_, fun j l k y hj hl hy => ?_, fun j hj => ?_⟩
  · rw [set_any] at hc'
    split at hc'
    · next e => subst e; rw [if_pos (by omega)] at hc'; obtain rfl := Option.some.inj hc'; exact hc
    · exact h.cok j c' hc'
  · have e : i ≠ j := by
      rintro rfl
      rw [hz] at hz'
      obtain rfl := Option.some.inj hz'
      rw [ht] at ht'
      cases ht'
    rw [set_any, if_neg e]
    exact h.dead j z' hz' ht'
  · rw [set_any] at hc'
    rw [set_any]
    by_cases e : i = j
    · subst e
      rw [if_pos rfl, if_pos (by omega)] at hc'
      obtain rfl := Option.some.inj hc'
      rw [hz] at hz'
      obtain rfl := Option.some.inj hz'
      rw [if_pos rfl, if_pos (by omega)]
    · rw [if_neg e] at hc'
      have hjn : j < x.n := by have := (List.getElem?_eq_some_iff.1 hz').1; omega
      have q := h.far hi hjn e (Nat.zero_le _) (Nat.zero_le _)
      rw [if_neg (by omega)]
      exact h.head j z' c' hj hz' hc'
  · rw [set_any]
    have hjn : j < x.n := by have := (List.getElem?_eq_some_iff.1 hl).1; omega
    have hk : k < x.sl j := by have := (List.getElem?_eq_some_iff.1 hy).1; rw [h.slots j l hl] at this; exact this
    rw [if_neg ?_]
    · exact h.slot j l k y hj hl hy
    · by_cases e : i = j
      · subst e; omega
      · have := h.far hi hjn e (Nat.zero_le _) (show 1 + k ≤ x.sl j by omega)
        omega
  · rw [set_any, if_neg (by omega)]
    exact h.out j hj
/-- A value in a slot. -/
theorem RepTo.value (h : RepTo m x bs L0 cs ct vs L) {i k : Nat} {z : St} {l : List Vl} (hz : cs[i]? = some z) (ht : z.t = true) (hl : vs[i]? = some l) (hk : k < l.length) (y : Vl) (hy : y.ok) : RepTo m x bs L0 cs ct (vs.set i (l.set k y)) (L.set (bs + x.at_ i + 1 + k) y.w) := by
  obtain ⟨l1, l2, l3⟩ := h.len
  obtain ⟨f1, f2, f3⟩ := h.fit
  have hi : i < x.n := by have := (List.getElem?_eq_some_iff.1 hz).1; omega
  have hin := Sh.at_in h.may hi
  have hks : k < x.sl i := by have := h.slots i l hl; omega
  refine ⟨h.may, by simp [l1, l2, l3], by simpa using h.fit, fun j l' hl' => ?_, h.cok, fun j l' hl' => ?_, fun j z' hz' ht' => ?_, fun j z' c' hj hz' hc' => ?_, fun j l' k' y' hj hl' hy' => ?_, fun j hj => ?_⟩
  · rw [set_any] at hl'
    split at hl'
    · next e => subst e; rw [if_pos (by omega)] at hl'; obtain rfl := Option.some.inj hl'; simpa using h.slots i l hl
    · exact h.slots j l' hl'
  · rw [set_any] at hl'
    split at hl'
    · next e =>
      subst e; rw [if_pos (by omega)] at hl'; obtain rfl := Option.some.inj hl'
      intro y' hy'
      rcases List.mem_or_eq_of_mem_set hy' with h' | rfl
      · exact h.vok i l hl y' h'
      · exact hy
    · exact h.vok j l' hl'
  · have e : i ≠ j := by
      rintro rfl
      rw [hz] at hz'
      obtain rfl := Option.some.inj hz'
      rw [ht] at ht'
      cases ht'
    rw [set_any, if_neg e]
    exact h.dead j z' hz' ht'
  · rw [set_any]
    have hjn : j < x.n := by have := (List.getElem?_eq_some_iff.1 hz').1; omega
    rw [if_neg ?_]
    · exact h.head j z' c' hj hz' hc'
    · by_cases e : i = j
      · subst e; omega
      · have := h.far hi hjn e (show 1 + k ≤ x.sl i by omega) (Nat.zero_le _)
        omega
  · rw [set_any] at hl'
    rw [set_any]
    by_cases e : i = j
    · subst e
      rw [if_pos rfl, if_pos (by omega)] at hl'
      obtain rfl := Option.some.inj hl'
      rw [set_any] at hy'
      by_cases e2 : k = k'
      · subst e2
        rw [if_pos rfl, if_pos hk] at hy'
        obtain rfl := Option.some.inj hy'
        rw [if_pos rfl, if_pos (by omega)]
      · rw [if_neg e2] at hy'
        rw [if_neg (by omega)]
        exact h.slot i l k' y' hj hl hy'
    · rw [if_neg e] at hl'
      have hjn : j < x.n := by have := (List.getElem?_eq_some_iff.1 hl').1; omega
      have hk' : k' < x.sl j := by have := (List.getElem?_eq_some_iff.1 hy').1; rw [h.slots j l' hl'] at this; exact this
      have := h.far hi hjn e (show 1 + k ≤ x.sl i by omega) (show 1 + k' ≤ x.sl j by omega)
      rw [if_neg (by omega)]
      exact h.slot j l' k' y' hj hl' hy'
  · rw [set_any, if_neg (by omega)]
    exact h.out j hj
end
end Go.Proofs.YtplneoapcadlnaaDoor
