/- Plain: a table of proxies: its entries; what each call answers and leaves; what was granted once. -/
import Derived.Test.YtdconkggghmgkaaMem
namespace Go.Proofs.Ytdconkggghmgkaa
namespace Px

structure En where
  i : Int
  g : Int
  c : Int
  d : Int
def begL : List En := List.replicate 8 ⟨0, 1, 0, 0⟩
def atE (l : List En) (i : Int) : Option En := if i < 0 then none else l[i.toNat]?
def argB (c g : Int) : Bool := decide (0 ≤ c) && decide (c ≤ 191) && decide (0 ≤ g) && decide (g ≤ 4294967295)
def freeB (x : En) : Bool := x.i == 0 && !(x.g == 4294967295)
def fstN (l : List En) : Nat := l.findIdx freeB
def grE (l : List En) (c g : Int) : Int := if argB c g = true then (if fstN l < l.length then 0 else 8) else 1
def grV (l : List En) (c g : Int) : Int := if grE l c g = 0 then (fstN l : Int) else 0
def gnZ (l : List En) (i : Int) : Int := match atE l i with | some x => x.g | none => 0
def grS (l : List En) (c g : Int) : List En := if grE l c g = 0 then l.set (fstN l) ⟨1, gnZ l (fstN l), c, g⟩ else l
def rvE (l : List En) (i : Int) : Int := match atE l i with | some x => if x.i = 1 then 0 else 9 | none => 1
def rvS (l : List En) (i : Int) : List En := match atE l i with | some x => if x.i = 1 then l.set i.toNat ⟨2, x.g, 0, 0⟩ else l | none => l
def wrE (l : List En) (i g : Int) : Int := match atE l i with | some x => if x.g < g then 4 else if g < x.g ∨ x.i = 0 then 5 else 0 | none => 4
def lkE (l : List En) (i g : Int) : Int := match atE l i with | some x => if wrE l i g = 0 then (if x.i = 2 then 6 else 0) else wrE l i g | none => 4
def lkA (l : List En) (i g : Int) : Int := match atE l i with | some x => if lkE l i g = 0 then x.c else 0 | none => 0
def lkB (l : List En) (i g : Int) : Int := match atE l i with | some x => if lkE l i g = 0 then x.d else 0 | none => 0
def clS (l : List En) (i g : Int) : List En := match atE l i with | some x => if wrE l i g = 0 then l.set i.toNat ⟨0, x.g + 1, 0, 0⟩ else l | none => l
def newB (l : List En) : Bool := l.all fun x => x.i == 0 && x.g == 1
def stE (l : List En) (g : Int) : Int := if (decide (1 ≤ g) && decide (g ≤ 4294967295)) && newB l = true then 0 else 1
def stS (l : List En) (g : Int) : List En := if stE l g = 0 then l.map fun _ => ⟨0, g, 0, 0⟩ else l

/-- What holds of an entry. -/
structure En.ok (x : En) : Prop where
  g1 : 1 ≤ x.g
  g2 : x.g ≤ 4294967295
  k : x.i = 0 ∧ x.c = 0 ∧ x.d = 0 ∨ x.i = 1 ∧ x.g < 4294967295 ∧ (0 ≤ x.c ∧ x.c ≤ 191) ∧ 0 ≤ x.d ∧ x.d ≤ 4294967295 ∨ x.i = 2 ∧ x.g < 4294967295 ∧ x.c = 0 ∧ x.d = 0
structure Wf (l : List En) : Prop where
  len : l.length = 8
  all : ∀ x ∈ l, x.ok
section
variable {l : List En} {i g c : Int}
theorem atE_lt {x : En} (h : atE l i = some x) : 0 ≤ i ∧ i.toNat < l.length ∧ l[i.toNat]? = some x := by
  unfold atE at h
  split at h
  · cases h
  · exact ⟨by omega, (List.getElem?_eq_some_iff.1 h).1, h⟩
theorem atE_set {x y : En} (h : atE l i = some x) (j : Int) : atE (l.set i.toNat y) j = if j = i then some y else atE l j := by
  obtain ⟨h0, h1, h2⟩ := atE_lt h
  unfold atE
  by_cases hj : j < 0
  · rw [if_pos hj, if_neg (by omega), if_pos hj]
  · rw [if_neg hj, if_neg hj, List.getElem?_set]
    by_cases e : j = i
    · subst e
      rw [if_pos rfl, if_pos h1, if_pos rfl]
    · rw [if_neg (by omega), if_neg e]
theorem Wf.at_ (h : Wf l) {x : En} (hx : atE l i = some x) : x.ok := h.all x (List.mem_of_getElem? (atE_lt hx).2.2)
theorem Wf.set (h : Wf l) {y : En} (hy : y.ok) (n : Nat) : Wf (l.set n y) :=
  ⟨by rw [List.length_set]; exact h.len, fun z hz => by
    rcases List.mem_or_eq_of_mem_set hz with hz | rfl
    · exact h.all z hz
    · exact hy⟩
theorem Wf.beg : Wf begL := ⟨rfl, fun x hx => by
  unfold begL at hx
  obtain rfl := (List.mem_replicate.1 hx).2
  exact ⟨by show (1 : Int) ≤ 1; omega, by show (1 : Int) ≤ 4294967295; omega, Or.inl ⟨rfl, rfl, rfl⟩⟩⟩
theorem fst_is (h : fstN l < l.length) : ∃ x, l[fstN l]? = some x ∧ x.i = 0 ∧ x.g ≠ 4294967295 := by
  unfold fstN at h ⊢
  have h1 := List.findIdx_getElem (w := h)
  have h2 := List.getElem?_eq_getElem h
  generalize l[List.findIdx freeB l] = x at h1 h2
  exact ⟨x, h2, by unfold freeB at h1; simpa using h1⟩
theorem gr_ok (h : grE l c g = 0) : (0 ≤ c ∧ c ≤ 191) ∧ (0 ≤ g ∧ g ≤ 4294967295) ∧ ∃ x, atE l (fstN l) = some x ∧ x.i = 0 ∧ x.g ≠ 4294967295 ∧ gnZ l (fstN l) = x.g ∧ grV l c g = fstN l ∧ grS l c g = l.set (fstN l) ⟨1, x.g, c, g⟩ := by
  have h' := h
  unfold grE at h
  split at h
  · rename_i ha
    split at h
    · rename_i hl
      unfold argB at ha
      simp only [Bool.and_eq_true, decide_eq_true_eq] at ha
      obtain ⟨x, hx, h0, h1⟩ := fst_is hl
      have hat : atE l (fstN l) = some x := by
        unfold atE
        rw [if_neg (by omega), Int.toNat_natCast]
        exact hx
      have hg : gnZ l (fstN l) = x.g := by unfold gnZ; rw [hat]
      exact ⟨⟨ha.1.1.1, ha.1.1.2⟩, ⟨ha.1.2, ha.2⟩, x, hat, h0, h1, hg, by unfold grV; rw [if_pos h'], by unfold grS; rw [if_pos h', hg]⟩
    · cases h
  · cases h
theorem Wf.gr (h : Wf l) (c g : Int) : Wf (grS l c g) := by
  by_cases he : grE l c g = 0
  · obtain ⟨h1, h2, x, hx, h3, h4, _, _, e⟩ := gr_ok he
    have hk := h.at_ hx
    have := hk.g2
    rw [e]
    exact h.set (y := ⟨1, x.g, c, g⟩) ⟨hk.g1, hk.g2, Or.inr (Or.inl ⟨rfl, by show x.g < _; omega, h1, h2⟩)⟩ _
  · unfold grS
    rw [if_neg he]
    exact h
theorem Wf.rv (h : Wf l) (i : Int) : Wf (rvS l i) := by
  unfold rvS
  cases hx : atE l i with
  | none => exact h
  | some x =>
    have hk := h.at_ hx
    show Wf (if x.i = 1 then _ else _)
    split
    · rename_i h1
      refine h.set (y := ⟨2, x.g, 0, 0⟩) ⟨hk.g1, hk.g2, Or.inr (Or.inr ⟨rfl, ?_, rfl, rfl⟩)⟩ _
      have h2 := hk.k
      show x.g < _
      omega
    · exact h
theorem wr_ok (h : wrE l i g = 0) : ∃ x, atE l i = some x ∧ x.g = g ∧ x.i ≠ 0 := by
  unfold wrE at h
  cases hx : atE l i with
  | none => rw [hx] at h; cases h
  | some x =>
    rw [hx] at h
    refine ⟨x, rfl, ?_⟩
    simp only at h
    split at h
    · cases h
    · split at h
      · cases h
      · omega
theorem Wf.cl (h : Wf l) (i g : Int) : Wf (clS l i g) := by
  unfold clS
  cases hx : atE l i with
  | none => exact h
  | some x =>
    have hk := h.at_ hx
    show Wf (if wrE l i g = 0 then _ else _)
    split
    · rename_i h1
      obtain ⟨y, hy, h2, h3⟩ := wr_ok h1
      rw [hx] at hy
      obtain rfl := Option.some.inj hy
      have h4 := hk.k
      have h5 := hk.g1
      exact h.set (y := ⟨0, x.g + 1, 0, 0⟩) ⟨by show 1 ≤ x.g + 1; omega, by show x.g + 1 ≤ _; omega, Or.inl ⟨rfl, rfl, rfl⟩⟩ _
    · exact h
theorem st_ok (h : stE l g = 0) : 1 ≤ g ∧ g ≤ 4294967295 ∧ (∀ x ∈ l, x.i = 0 ∧ x.g = 1) ∧ stS l g = l.map fun _ => ⟨0, g, 0, 0⟩ := by
  have h' := h
  unfold stE at h
  split at h
  · rename_i ha
    unfold newB at ha
    simp only [Bool.and_eq_true, decide_eq_true_eq, List.all_eq_true, beq_iff_eq] at ha
    exact ⟨ha.1.1, ha.1.2, ha.2, by unfold stS; rw [if_pos h']⟩
  · cases h
theorem Wf.st (h : Wf l) (g : Int) : Wf (stS l g) := by
  by_cases he : stE l g = 0
  · obtain ⟨h1, h2, _, e⟩ := st_ok he
    rw [e]
    refine ⟨by rw [List.length_map]; exact h.len, fun x hx => ?_⟩
    obtain ⟨_, _, rfl⟩ := List.mem_map.1 hx
    exact ⟨h1, h2, Or.inl ⟨rfl, rfl, rfl⟩⟩
  · unfold stS
    rw [if_neg he]
    exact h
end

/-! Acts. -/
structure Pact where
  k : Int
  a : Int
  b : Int
def sdA (l : List En) (x : Pact) : Int := if x.k % 6 = 3 then lkA l x.a x.b else if x.k % 6 = 2 ∨ x.k % 6 = 4 ∨ x.k % 6 = 5 then 0 else grV l x.a x.b
def sdB (l : List En) (x : Pact) : Int := if x.k % 6 = 3 then lkB l x.a x.b else 0
def sdE (l : List En) (x : Pact) : Int := if x.k % 6 = 2 then rvE l x.a else if x.k % 6 = 3 then lkE l x.a x.b else if x.k % 6 = 4 then wrE l x.a x.b else if x.k % 6 = 5 then stE l x.b else grE l x.a x.b
def sdS (l : List En) (x : Pact) : List En := if x.k % 6 = 2 then rvS l x.a else if x.k % 6 = 3 then l else if x.k % 6 = 4 then clS l x.a x.b else if x.k % 6 = 5 then stS l x.b else grS l x.a x.b
theorem Wf.sd {l : List En} (h : Wf l) (x : Pact) : Wf (sdS l x) := by
  unfold sdS
  split
  · exact h.rv _
  split
  · exact h
  split
  · exact h.cl _ _
  split
  · exact h.st _
  · exact h.gr _ _

/-! What was granted. -/
structure Hr where
  e : Int
  g : Int
  s : Int
  a : Int
  b : Int
def Good (l : List En) (r : Hr) : Prop := ∃ x, atE l r.e = some x ∧ 1 ≤ r.g ∧ (r.s = 1 ∧ x = ⟨1, r.g, r.a, r.b⟩ ∨ r.s = 2 ∧ x.i = 2 ∧ x.g = r.g ∨ r.s = 3 ∧ r.g < x.g)
def upR (x : Pact) (E : Int) (r : Hr) : Hr :=
  if x.k % 6 = 2 ∧ E = 0 ∧ r.e = x.a ∧ r.s = 1 then { r with s := 2 } else if x.k % 6 = 4 ∧ E = 0 ∧ r.e = x.a ∧ r.g = x.b then { r with s := 3 } else r
section
variable {l : List En} {r : Hr} {x : Pact}
/-- What the law asks of one that was granted. -/
theorem Good.look (h : Good l r) : (r.s = 1 → lkE l r.e r.g = 0 ∧ lkA l r.e r.g = r.a ∧ lkB l r.e r.g = r.b) ∧ (r.s = 2 → lkE l r.e r.g = 6) ∧ (r.s = 3 → lkE l r.e r.g = 5) ∧ (r.s = 1 ∨ r.s = 2 ∨ r.s = 3) := by
  obtain ⟨y, hy, _, hk⟩ := h
  rcases hk with ⟨h1, rfl⟩ | ⟨h1, h2, h3⟩ | ⟨h1, h2⟩
  · have hw : wrE l r.e r.g = 0 := by unfold wrE; rw [hy]; simp
    have he : lkE l r.e r.g = 0 := by unfold lkE; rw [hy]; simp [hw]
    exact ⟨fun _ => ⟨he, by unfold lkA; rw [hy]; simp [he], by unfold lkB; rw [hy]; simp [he]⟩, fun e => by omega, fun e => by omega, Or.inl h1⟩
  · have hw : wrE l r.e r.g = 0 := by unfold wrE; rw [hy]; simp [h2, h3]
    have he : lkE l r.e r.g = 6 := by unfold lkE; rw [hy]; simp [hw, h2]
    exact ⟨fun e => by omega, fun _ => he, fun e => by omega, Or.inr (Or.inl h1)⟩
  · have hw : wrE l r.e r.g = 5 := by unfold wrE; rw [hy]; simp [h2]; omega
    have he : lkE l r.e r.g = 5 := by unfold lkE; rw [hy]; simp [hw]
    exact ⟨fun e => by omega, fun e => by omega, fun _ => he, Or.inr (Or.inr h1)⟩
theorem Good.same (_ : Good l r) {E : Int} (h2 : ¬ (x.k % 6 = 2 ∧ E = 0)) (h4 : ¬ (x.k % 6 = 4 ∧ E = 0)) : upR x E r = r := by
  unfold upR
  rw [if_neg (fun e => h2 ⟨e.1, e.2.1⟩), if_neg (fun e => h4 ⟨e.1, e.2.1⟩)]
/-- Behind an act. -/
theorem Good.up (_ : Wf l) (h : Good l r) : Good (sdS l x) (upR x (sdE l x) r) := by
  obtain ⟨y, hy, h1, hk⟩ := h
  by_cases k2 : x.k % 6 = 2
  · have eS : sdS l x = rvS l x.a := by unfold sdS; rw [if_pos k2]
    have eE : sdE l x = rvE l x.a := by unfold sdE; rw [if_pos k2]
    rw [eS, eE]
    by_cases he : rvE l x.a = 0
    · cases hx : atE l x.a with
      | none => unfold rvE at he; rw [hx] at he; cases he
      | some z =>
        have hz : z.i = 1 := by
          unfold rvE at he
          rw [hx] at he
          simp only at he
          split at he
          · assumption
          · cases he
        have eR : rvS l x.a = l.set x.a.toNat ⟨2, z.g, 0, 0⟩ := by unfold rvS; rw [hx]; simp [hz]
        rw [eR, he]
        by_cases ea : r.e = x.a
        · rw [ea] at hy
          rw [hx] at hy
          obtain rfl := Option.some.inj hy
          rcases hk with ⟨s1, rfl⟩ | ⟨s1, s2, _⟩ | ⟨s1, s2⟩
          · have : upR x 0 r = { r with s := 2 } := by unfold upR; rw [if_pos ⟨k2, rfl, ea, s1⟩]
            rw [this]
            exact ⟨⟨2, r.g, 0, 0⟩, by rw [atE_set hx, if_pos ea], h1, Or.inr (Or.inl ⟨rfl, rfl, rfl⟩)⟩
          · omega
          · have : upR x 0 r = r := by unfold upR; rw [if_neg (fun e => by omega), if_neg (fun e => by omega)]
            rw [this]
            exact ⟨⟨2, z.g, 0, 0⟩, by rw [atE_set hx, if_pos ea], h1, Or.inr (Or.inr ⟨s1, s2⟩)⟩
        · have : upR x 0 r = r := by unfold upR; rw [if_neg (fun e => ea e.2.2.1), if_neg (fun e => by omega)]
          rw [this]
          exact ⟨y, by rw [atE_set hx, if_neg ea]; exact hy, h1, hk⟩
    · have eR : rvS l x.a = l := by
        unfold rvE at he
        unfold rvS
        cases hx : atE l x.a with
        | none => rfl
        | some z =>
          rw [hx] at he
          simp only at he ⊢
          split
          · rename_i hz
            rw [if_pos hz] at he
            exact absurd rfl he
          · rfl
      have : upR x (rvE l x.a) r = r := by unfold upR; rw [if_neg (fun e => he e.2.1), if_neg (fun e => by omega)]
      rw [eR, this]
      exact ⟨y, hy, h1, hk⟩
  by_cases k3 : x.k % 6 = 3
  · have eS : sdS l x = l := by unfold sdS; rw [if_neg k2, if_pos k3]
    have : upR x (sdE l x) r = r := by unfold upR; rw [if_neg (fun e => by omega), if_neg (fun e => by omega)]
    rw [eS, this]
    exact ⟨y, hy, h1, hk⟩
  by_cases k4 : x.k % 6 = 4
  · have eS : sdS l x = clS l x.a x.b := by unfold sdS; rw [if_neg k2, if_neg k3, if_pos k4]
    have eE : sdE l x = wrE l x.a x.b := by unfold sdE; rw [if_neg k2, if_neg k3, if_pos k4]
    rw [eS, eE]
    by_cases he : wrE l x.a x.b = 0
    · obtain ⟨z, hx, z1, z2⟩ := wr_ok he
      have eR : clS l x.a x.b = l.set x.a.toNat ⟨0, z.g + 1, 0, 0⟩ := by unfold clS; rw [hx]; simp [he]
      rw [eR, he]
      by_cases ea : r.e = x.a
      · rw [ea] at hy
        rw [hx] at hy
        obtain rfl := Option.some.inj hy
        by_cases eb : r.g = x.b
        · have : upR x 0 r = { r with s := 3 } := by unfold upR; rw [if_neg (fun e => k2 e.1), if_pos ⟨k4, rfl, ea, eb⟩]
          rw [this]
          exact ⟨⟨0, z.g + 1, 0, 0⟩, by rw [atE_set hx, if_pos ea], h1, Or.inr (Or.inr ⟨rfl, by show r.g < z.g + 1; omega⟩)⟩
        · have : upR x 0 r = r := by unfold upR; rw [if_neg (fun e => k2 e.1), if_neg (fun e => eb e.2.2.2)]
          rw [this]
          rcases hk with ⟨s1, rfl⟩ | ⟨s1, _, s3⟩ | ⟨s1, s2⟩
          · exact absurd z1 eb
          · omega
          · exact ⟨⟨0, z.g + 1, 0, 0⟩, by rw [atE_set hx, if_pos ea], h1, Or.inr (Or.inr ⟨s1, by show r.g < z.g + 1; omega⟩)⟩
      · have : upR x 0 r = r := by unfold upR; rw [if_neg (fun e => k2 e.1), if_neg (fun e => ea e.2.2.1)]
        rw [this]
        exact ⟨y, by rw [atE_set hx, if_neg ea]; exact hy, h1, hk⟩
    · have eR : clS l x.a x.b = l := by
        unfold clS
        cases hx : atE l x.a with
        | none => rfl
        | some z => simp [he]
      have : upR x (wrE l x.a x.b) r = r := by unfold upR; rw [if_neg (fun e => k2 e.1), if_neg (fun e => he e.2.1)]
      rw [eR, this]
      exact ⟨y, hy, h1, hk⟩
  have hsame : upR x (sdE l x) r = r := by unfold upR; rw [if_neg (fun e => k2 e.1), if_neg (fun e => k4 e.1)]
  rw [hsame]
  by_cases k5 : x.k % 6 = 5
  · have eS : sdS l x = stS l x.b := by unfold sdS; rw [if_neg k2, if_neg k3, if_neg k4, if_pos k5]
    rw [eS]
    by_cases he : stE l x.b = 0
    · obtain ⟨_, _, ha, _⟩ := st_ok he
      have hb := ha y (List.mem_of_getElem? (atE_lt hy).2.2)
      rcases hk with ⟨s1, rfl⟩ | ⟨s1, s2, _⟩ | ⟨s1, s2⟩
      · have := hb.1
        simp at this
      · omega
      · omega
    · unfold stS
      rw [if_neg he]
      exact ⟨y, hy, h1, hk⟩
  · have eS : sdS l x = grS l x.a x.b := by unfold sdS; rw [if_neg k2, if_neg k3, if_neg k4, if_neg k5]
    rw [eS]
    by_cases he : grE l x.a x.b = 0
    · obtain ⟨_, _, z, hz, z1, z2, _, _, e⟩ := gr_ok he
      rw [e]
      have hset := atE_set (y := ⟨1, z.g, x.a, x.b⟩) hz r.e
      rw [Int.toNat_natCast] at hset
      by_cases ea : r.e = fstN l
      · rw [ea] at hy
        rw [hz] at hy
        obtain rfl := Option.some.inj hy
        rcases hk with ⟨s1, rfl⟩ | ⟨s1, s2, _⟩ | ⟨s1, s2⟩
        · simp at z1
        · omega
        · exact ⟨⟨1, z.g, x.a, x.b⟩, by rw [hset, if_pos ea], h1, Or.inr (Or.inr ⟨s1, s2⟩)⟩
      · exact ⟨y, by rw [hset, if_neg ea]; exact hy, h1, hk⟩
    · unfold grS
      rw [if_neg he]
      exact ⟨y, hy, h1, hk⟩
/-- What is granted now was never granted; it is good. -/
theorem Good.fresh (h : Good l r) {a b : Int} (he : grE l a b = 0) (hr : r.e = grV l a b) : r.s = 3 ∧ r.g < gnZ (grS l a b) (grV l a b) := by
  obtain ⟨_, _, z, hz, z1, _, _, e1, e2⟩ := gr_ok he
  obtain ⟨y, hy, h1, hk⟩ := h
  have hset := atE_set (y := ⟨1, z.g, a, b⟩) hz (fstN l)
  rw [Int.toNat_natCast, if_pos rfl] at hset
  rw [hr, e1, hz] at hy
  obtain rfl := Option.some.inj hy
  have hg : gnZ (grS l a b) (grV l a b) = z.g := by
    rw [e1, e2]
    unfold gnZ
    rw [hset]
  rcases hk with ⟨s1, rfl⟩ | ⟨s1, s2, _⟩ | ⟨s1, s2⟩
  · simp at z1
  · omega
  · exact ⟨s1, by rw [hg]; exact s2⟩
theorem Good.new (hw : Wf l) {a b : Int} (he : grE l a b = 0) : Good (grS l a b) ⟨grV l a b, gnZ (grS l a b) (grV l a b), 1, a, b⟩ := by
  obtain ⟨_, _, z, hz, z1, _, _, e1, e2⟩ := gr_ok he
  have hset := atE_set (y := ⟨1, z.g, a, b⟩) hz (fstN l)
  rw [Int.toNat_natCast, if_pos rfl] at hset
  have hg : gnZ (grS l a b) (grV l a b) = z.g := by
    rw [e1, e2]
    unfold gnZ
    rw [hset]
  rw [hg, e1, e2]
  exact ⟨_, hset, (hw.at_ hz).g1, Or.inl ⟨rfl, rfl⟩⟩
end
end Px
end Go.Proofs.Ytdconkggghmgkaa
