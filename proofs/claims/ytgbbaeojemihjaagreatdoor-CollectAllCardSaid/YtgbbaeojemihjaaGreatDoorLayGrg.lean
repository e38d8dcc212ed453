/- The program's map of nodes: outs, nodes; Right. What is still to be looked at: what holds of the nodes that are left, and of the pile; a pile of slices in memory. The program's unreached: a labelled loop over a pile. The program's Reach, Dead. The program's Counts. Fits; alive. GraphTells, as a call. Closed, in plain words. -/
import Derived.Test.YtgbbaeojemihjaaGreatDoorLayGra
import Derived.Laws.OwnMore
import Derived.WalkSmall
import Derived.Test.YtgbbaeojemihjaaGreatDoorIter
import Derived.Deep.RegionHeld3
namespace Go.Proofs.YtgbbaeojemihjaaGreatDoor
namespace Gr
open Go.RowKit Go.Maps

theorem Tryz.lawIntG : Keyed Tryz.prog 3 := int_keyed Tryz.underlying3
theorem map_only {H : Type} {P : Program} {k : TypeId} {R : Value → Option (DataW H × List MemPlace)} {w w' : World} {b n : Nat} {D : DataW H} {S : List Nat} (h : w.ownsMap P k R b n D) (ho : Only S w w') (hb : b ∉ S) : w'.ownsMap P k R b n D := by
  have hl := h.lt
  obtain ⟨es, clock, he, r⟩ := h
  exact ⟨es, clock, (ho.block b hl hb).trans he, r⟩
theorem map_isMap {H : Type} {P : Program} {k : TypeId} {R : Value → Option (DataW H × List MemPlace)} {w : World} {b n : Nat} {D : DataW H} (h : w.ownsMap P k R b n D) : IsMap D := by
  obtain ⟨es, clock, _, _, _, rfl⟩ := h
  exact ⟨_, rfl⟩
def heldR (v : Value) : Option (DataW Value × List MemPlace) := some (.held v, [])
theorem ky_ne {a b : Int} (h : a ≠ b) : Rt.ky a ≠ Rt.ky b := fun e => h (by simpa [Rt.ky] using e)
theorem ky_key (a : Int) : WideAt.IsKeyLit (Rt.ky a) := by unfold Rt.ky; simp [WideAt.IsKeyLit]

/-- Block m of wr is a map that has just the IDs that S tells, each with a value that reads, in w0, as its node's Out. -/
structure Lf (w0 : World) (G : Gp) (wr : World) (m n : Nat) (S : Int → Bool) (D : DataW Value) : Prop where
  own : wr.ownsMap Tryz.prog 3 heldR m n D
  has : ∀ z, Maps.has D (Rt.ky z) = S z
  outs : ∀ z, S z = true → ∃ x ∈ G.nodes, x.id = z ∧ ∃ v, (∀ zd, D.atKey (Rt.ky z) zd = .held v) ∧ Rd w0 v x.out
section
variable {w0 wr wr' : World} {G : Gp} {m n : Nat} {S : Int → Bool} {D : DataW Value}
theorem Lf.only {T : List Nat} (h : Lf w0 G wr m n S D) (ho : Only T wr wr') (hm : m ∉ T) : Lf w0 G wr' m n S D := ⟨map_only h.own ho hm, h.has, h.outs⟩
theorem Lf.below (h : Lf w0 G wr m n S D) (hb : Below wr.heap.size wr wr') : Lf w0 G wr' m n S D := h.only (Only.of_below (S := []) hb) (by simp)
theorem Lf.put (h : Lf w0 G wr m n S D) {x : Nd} (hx : x ∈ G.nodes) {v : Value} (hv : Rd w0 v x.out) (hown : wr'.ownsMap Tryz.prog 3 heldR m (n + 1) (D.put (Rt.ky x.id) (.held v))) :
    Lf w0 G wr' m (n + 1) (fun z => S z || x.id == z) (D.put (Rt.ky x.id) (.held v)) := by
  have hI := map_isMap h.own
  refine ⟨hown, fun z => ?_, fun z hz => ?_⟩
  · by_cases e : x.id = z
    · subst e
      rw [has_put_same hI (ky_key _)]
      simp
    · rw [has_put_other (ky_ne (fun e' => e e'.symm)), h.has]
      simp [e]
  · by_cases e : x.id = z
    · subst e
      exact ⟨x, hx, rfl, v, fun zd => atKey_put_same hI (ky_key _) _ _, hv⟩
    · have hz' : S z = true := by simpa [e] using hz
      obtain ⟨y, hy, he, u, hat, hr⟩ := h.outs z hz'
      exact ⟨y, hy, he, u, fun zd => by rw [atKey_put_other (ky_ne (fun e' => e e'.symm))]; exact hat zd, hr⟩
theorem Lf.del (h : Lf w0 G wr m n S D) (x : Int) (hown : wr'.ownsMap Tryz.prog 3 heldR m n (D.del (Rt.ky x))) :
    Lf w0 G wr' m n (fun z => S z && !(x == z)) (D.del (Rt.ky x)) := by
  refine ⟨hown, fun z => ?_, fun z hz => ?_⟩
  · by_cases e : x = z
    · subst e
      rw [has_del_same]
      simp
    · rw [has_del_other (ky_ne (fun e' => e e'.symm)), h.has]
      simp [e]
  · by_cases e : x = z
    · subst e
      simp at hz
    · have hz' : S z = true := by simpa [e] using hz
      obtain ⟨y, hy, he, u, hat, hr⟩ := h.outs z hz'
      exact ⟨y, hy, he, u, fun zd => by rw [atKey_del_other (ky_ne (fun e' => e e'.symm))]; exact hat zd, hr⟩
end

end Gr
end Go.Proofs.YtgbbaeojemihjaaGreatDoor

namespace Go.Proofs.YtgbbaeojemihjaaGreatDoor
namespace Gr
open Go.RowKit Go.Maps

/-- S: what is left; P: the lists on the pile. -/
structure Iv (G : Gp) (fr : List Int) (S : Int → Bool) (P : List (List Int)) : Prop where
  gone : ∀ z ∈ ids G, S z = false → Rch G fr z
  pile : ∀ l ∈ P, ∀ o ∈ l, o ∈ ids G → Rch G fr o
  start : ∀ z ∈ ids G, z ∈ fr → S z = false ∨ ∃ l ∈ P, z ∈ l
  step : ∀ n ∈ G.nodes, S n.id = false → ∀ o ∈ n.out, S o = false ∨ ∃ l ∈ P, o ∈ l
  node : ∀ z, S z = true → z ∈ ids G
section
variable {G : Gp} {fr : List Int} {S : Int → Bool} {P Q : List (List Int)}
theorem Iv.first (fr : List Int) : Iv G fr (Rt.hasB (ids G)) [fr] where
  gone z hz hs := by rw [Rt.hasB_iff.2 hz] at hs; cases hs
  pile l hl o ho hn := by
    simp only [List.mem_singleton] at hl
    subst hl
    exact Rch.start hn ho
  start z hz hf := .inr ⟨fr, by simp, hf⟩
  step n hn hs o ho := by
    have : n.id ∈ ids G := List.mem_map.2 ⟨n, hn, rfl⟩
    rw [Rt.hasB_iff.2 this] at hs; cases hs
  node z hz := Rt.hasB_iff.1 hz
theorem Iv.pop {top : List Int} (h : Iv G fr S (Q ++ [top])) (ht : ∀ z ∈ top, S z = false) : Iv G fr S Q where
  gone := h.gone
  pile l hl := h.pile l (by simp [hl])
  start z hz hf := by
    rcases h.start z hz hf with h1 | ⟨l, hl, hm⟩
    · exact .inl h1
    · rcases List.mem_append.1 hl with hl | hl
      · exact .inr ⟨l, hl, hm⟩
      · simp only [List.mem_singleton] at hl
        subst hl
        exact .inl (ht z hm)
  step n hn hs o ho := by
    rcases h.step n hn hs o ho with h1 | ⟨l, hl, hm⟩
    · exact .inl h1
    · rcases List.mem_append.1 hl with hl | hl
      · exact .inr ⟨l, hl, hm⟩
      · simp only [List.mem_singleton] at hl
        subst hl
        exact .inl (ht o hm)
  node := h.node
theorem Iv.look (hr : Ri G) {top : List Int} {j : Nat} {x : Nd} (h : Iv G fr S (Q ++ [top])) (hx : x ∈ G.nodes) (hj : top[j]? = some x.id) (ht : ∀ k z, k < j → top[k]? = some z → S z = false) :
    Iv G fr (fun z => S z && !(x.id == z)) (Q ++ [top.drop (j + 1)] ++ [x.out]) := by
  have hxi : x.id ∈ ids G := List.mem_map.2 ⟨x, hx, rfl⟩
  have hxr : Rch G fr x.id := h.pile top (by simp) x.id (List.mem_of_getElem? hj) hxi
  have hcov : ∀ z, (S z = false ∨ ∃ l ∈ Q ++ [top], z ∈ l) → (S z && !(x.id == z)) = false ∨ ∃ l ∈ Q ++ [top.drop (j + 1)] ++ [x.out], z ∈ l := by
    intro z hz
    rcases hz with hz | ⟨l, hl, hm⟩
    · exact .inl (by simp [hz])
    · rcases List.mem_append.1 hl with hl | hl
      · exact .inr ⟨l, by simp [hl], hm⟩
      · simp only [List.mem_singleton] at hl
        subst hl
        obtain ⟨k, hk⟩ := List.mem_iff_getElem?.1 hm
        rcases Nat.lt_trichotomy k j with hkj | rfl | hkj
        · exact .inl (by simp [ht k z hkj hk])
        · rw [hj] at hk
          simp only [Option.some.injEq] at hk
          exact .inl (by simp [hk])
        · refine .inr ⟨l.drop (j + 1), by simp, List.mem_iff_getElem?.2 ⟨k - (j + 1), ?_⟩⟩
          rw [List.getElem?_drop, show j + 1 + (k - (j + 1)) = k by omega]
          exact hk
  refine ⟨fun z hz hs => ?_, fun l hl o ho hn => ?_, fun z hz hf => hcov z (h.start z hz hf), fun n hn hs o ho => ?_, fun z hz => h.node z (by simp at hz; exact hz.1)⟩
  · by_cases e : x.id = z
    · exact e ▸ hxr
    · exact h.gone z hz (by simpa [e] using hs)
  · simp only [List.mem_append, List.mem_singleton] at hl
    rcases hl with (hl | rfl) | rfl
    · exact h.pile l (by simp [hl]) o ho hn
    · exact h.pile top (by simp) o (List.mem_of_mem_drop ho) hn
    · exact hxr.step hx ho
  · by_cases e : x.id = n.id
    · obtain ⟨i, hi⟩ := List.mem_iff_getElem?.1 hx
      obtain ⟨k, hk⟩ := List.mem_iff_getElem?.1 hn
      obtain rfl := same_id hr hi hk e
      rw [hi] at hk
      obtain rfl : x = n := by simpa using hk
      exact .inr ⟨x.out, by simp, ho⟩
    · exact hcov o (h.step n hn (by simpa [e] using hs) o ho)
end

/-! ### a pile of slices -/
/-- The pile: its values, each with its ints, that read so in w0. -/
structure Pl (w0 wr : World) (B : Nat) (pv : Value) (vs : List Value) (P : List (List Int)) : Prop where
  row : wr.ownsRow B 52 1 pv vs.length vs
  len : vs.length = P.length
  rd : ∀ (i : Nat) (v : Value) (l : List Int), vs[i]? = some v → P[i]? = some l → Rd w0 v l
section
variable {w0 wr wr' : World} {B : Nat} {pv : Value} {vs : List Value} {P : List (List Int)}
theorem Pl.kept {row : Option Nat} (h : Pl w0 wr B pv vs P) (hg : wr.grownBy wr' row) (hne : pv.ownBlock = none ∨ pv.ownBlock ≠ row) : Pl w0 wr' B pv vs P := ⟨h.row.kept hg hne, h.len, h.rd⟩
end
theorem Rd.cut {w : World} {A : Option Addr} {cap : Nat} {L : List Int} {j : Nat} (h : Rd w (.slice A L.length cap) L) (hj : j < L.length) :
    ∃ A', sliced A (j + 1) L.length cap 1 = .slice A' (L.drop (j + 1)).length (cap - (j + 1)) ∧ Rd w (.slice A' (L.drop (j + 1)).length (cap - (j + 1))) (L.drop (j + 1)) := by
  obtain ⟨ho, A0, c0, e, h1, h2, h3⟩ := h
  simp only [Value.slice.injEq, true_and] at e
  obtain ⟨rfl, rfl⟩ := e
  refine ⟨_, by unfold sliced; rw [List.length_drop], fun x hx => ho x (List.mem_of_mem_drop hx), _, _, rfl, by rw [List.length_drop]; omega, by omega, fun k x hx => ?_⟩
  rw [List.getElem?_drop] at hx
  obtain ⟨b, o, rfl, hb, hc⟩ := h3 _ x hx
  have hlt := (List.getElem?_eq_some_iff.1 hx).1
  refine ⟨b, o + (j + 1), ?_, hb, ?_⟩
  · rw [if_neg (by omega)]
    simp [Addr.add]
  · rw [Nat.add_assoc]
    exact hc

section
variable (w : World)
end
end Gr
end Go.Proofs.YtgbbaeojemihjaaGreatDoor

namespace Go.Proofs.YtgbbaeojemihjaaGreatDoor
namespace Gr
open Go.RowKit Go.Maps

section
variable {v0 wr w1 : World} {G : Gp} {m n B pg t cap : Nat} {S : Int → Bool} {D : DataW Value} {qs : List Value} {tv : Value} {Q : List (List Int)} {top : List Int}
end

end Gr
end Go.Proofs.YtgbbaeojemihjaaGreatDoor

namespace Go.Proofs.YtgbbaeojemihjaaGreatDoor
namespace Gr
open Go.RowKit Go.Maps

theorem dead_inc {G : Gp} (hr : Ri G) : (deadL G).Pairwise (· < ·) := hr.inc.filter _
end Gr
end Go.Proofs.YtgbbaeojemihjaaGreatDoor

namespace Go.Proofs.YtgbbaeojemihjaaGreatDoor
namespace Gr
open Go.RowKit Go.Maps

theorem Tryz.zeroIntG (w : World) : (zeroValue 3).run Tryz.prog w = .ok (.int .i64 0) w := by kernel_rfl
/-- Block t is a map that tells how often each stands in m. -/
structure Tm (wr : World) (t n : Nat) (m : List Int) (D : DataW Unit) : Prop where
  own : wr.ownsMap Tryz.prog 3 (plainElem Tryz.prog 3) t n D
  cnt : ∀ z, D.atKey (Rt.ky z) (.lit (.int .i64 0)) = .lit (.int .i64 (m.count z : Int))
section
variable {wr wr' : World} {t n : Nat} {m : List Int} {D : DataW Unit}
theorem Tm.only {T : List Nat} (h : Tm wr t n m D) (ho : Only T wr wr') (hm : t ∉ T) : Tm wr' t n m D := ⟨map_only h.own ho hm, h.cnt⟩
theorem Tm.below (h : Tm wr t n m D) (hb : Below wr.heap.size wr wr') : Tm wr' t n m D := h.only (Only.of_below (S := []) hb) (by simp)
theorem Tm.look (h : Tm wr t n m D) {x : Int} (hx : i64ok x) : (Instr.lookup 148 (.map (some t)) (.int .i64 x) false).run Tryz.prog wr = .ok (.int .i64 (m.count x : Int)) wr := by
  obtain ⟨c, hrun, hv, _⟩ := h.own.lookup_int Tryz.lawIntG Tryz.underlying148 Tryz.underlying3 (Tryz.zeroIntG wr) (keyOf_int_mk Tryz.underlying3 (Rt.i64_wf hx))
  rw [show (Lit.int .i64 x) = Rt.ky x from rfl, h.cnt] at hv
  simp only [DataW.lit.injEq, Lit.int.injEq, true_and] at hv
  rw [hrun, ← hv]
theorem Tm.put (h : Tm wr t n m D) (x : Int) {v : Int} (hv : v = (m.count x : Int) + 1) (hown : wr'.ownsMap Tryz.prog 3 (plainElem Tryz.prog 3) t (n + 1) (D.put (Rt.ky x) (.lit (.int .i64 v)))) :
    Tm wr' t (n + 1) (m ++ [x]) (D.put (Rt.ky x) (.lit (.int .i64 v))) := by
  have hI := map_isMap h.own
  refine ⟨hown, fun z => ?_⟩
  by_cases e : x = z
  · subst e
    rw [atKey_put_same hI (ky_key _), hv, List.count_append]
    simp
  · rw [atKey_put_other (ky_ne (fun e' => e e'.symm)), h.cnt, List.count_append]
    have : [x].count z = 0 := List.count_eq_zero.2 (by simp; exact fun h => e h.symm)
    rw [this]
    rfl
end
end Gr
end Go.Proofs.YtgbbaeojemihjaaGreatDoor

namespace Go.Proofs.YtgbbaeojemihjaaGreatDoor
namespace Gr
open Go.RowKit Go.Maps

def fitsB (G : Gp) : Bool := decide (G.nodes.length ≤ 30) && decide (G.roots.length ≤ 30) && G.nodes.all (fun n => decide (n.out.length ≤ 30))

def gYes : Gp := ⟨[⟨2, [5, 5]⟩, ⟨5, []⟩, ⟨7, [9]⟩, ⟨9, [7, 5]⟩], [2]⟩
def gNo : Gp := ⟨[⟨2, [3]⟩], []⟩
structure AL (w0 w : World) (q1 q2 a b c : Nat) : Prop where
  k1 : Blk w q1 63 [.slice (some ⟨a, 0, none⟩) 4 4, .slice (some ⟨b, 0, none⟩) 1 1]
  k2 : Blk w q2 63 [.slice (some ⟨c, 0, none⟩) 1 1, .slice none 0 0]
  yes : GrAt w (.agg #[.slice (some ⟨a, 0, none⟩) 4 4, .slice (some ⟨b, 0, none⟩) 1 1]) gYes
  no : GrAt w (.agg #[.slice (some ⟨c, 0, none⟩) 1 1, .slice none 0 0]) gNo
  below : Below w0.heap.size w0 w
section
variable {w0 w w' : World} {q1 q2 a b c : Nat}
theorem AL.more (h : AL w0 w q1 q2 a b c) (hb : Below w.heap.size w w') : AL w0 w' q1 q2 a b c := ⟨h.k1.below hb h.k1.lt, h.k2.below hb h.k2.lt, h.yes.below hb, h.no.below hb, below_more h.below hb⟩
theorem AL.alloc (h : AL w0 w q1 q2 a b c) (o : Obj) : AL w0 (w.alloc o) q1 q2 a b c := h.more ((Below.refl _ w).alloc (Nat.le_refl _) o)
theorem AL.cells (h : AL w0 w q1 q2 a b c) : w.cell? ⟨q1, 0, none⟩ = some (.slice (some ⟨a, 0, none⟩) 4 4) ∧ w.cell? ⟨q1, 1, none⟩ = some (.slice (some ⟨b, 0, none⟩) 1 1) ∧ w.cell? ⟨q2, 0, none⟩ = some (.slice (some ⟨c, 0, none⟩) 1 1) ∧ w.cell? ⟨q2, 1, none⟩ = some (.slice none 0 0) :=
  ⟨h.k1.cell rfl, h.k1.cell rfl, h.k2.cell rfl, h.k2.cell rfl⟩
end
end Gr
end Go.Proofs.YtgbbaeojemihjaaGreatDoor

namespace Go.Proofs.YtgbbaeojemihjaaGreatDoor
namespace Gr
open Go.RowKit Go.Maps

/-- A law's world: the box at q with the graph; the IDs that are asked. -/
structure LW (w0 w : World) (q : Nat) (nv rv fv : Value) (G : Gp) (fr : List Int) : Prop where
  box : Blk w q 63 [nv, rv]
  gr : GrAt w (.agg #[nv, rv]) G
  rd : Rd w fv fr
  below : Below w0.heap.size w0 w
section
variable {w0 w w' : World} {q : Nat} {nv rv fv u y : Value} {G : Gp} {fr L : List Int}
theorem LW.more (h : LW w0 w q nv rv fv G fr) (hb : Below w.heap.size w w') : LW w0 w' q nv rv fv G fr := ⟨h.box.below hb h.box.lt, h.gr.below hb, h.rd.below hb, below_more h.below hb⟩
theorem below_drew (w : World) : Below w.heap.size w w.drew := ⟨rfl, rfl, rfl, Nat.le_refl _, fun _ _ => rfl⟩
theorem LW.drew (h : LW w0 w q nv rv fv G fr) : LW w0 w.drew q nv rv fv G fr := h.more (below_drew w)
variable (hn : G.nodes.length ≤ 1000) (hP : (allP G).length ≤ 100000)
include hn in
include hn in
include hn in
include hn in
include hn hP in
include hn hP in
include hn in
include hn in
end
end Gr
end Go.Proofs.YtgbbaeojemihjaaGreatDoor

namespace Go.Proofs.YtgbbaeojemihjaaGreatDoor
namespace Gr
open Go.RowKit Go.Maps

section
variable {G : Gp} {fr : List Int}
theorem hasB_false {l : List Int} {z : Int} : Rt.hasB l z = false ↔ z ∉ l := by
  rw [← Rt.hasB_iff]
  simp
theorem mem_dead {z : Int} : z ∈ deadL G ↔ z ∈ ids G ∧ z ∉ reachL G G.roots := by
  unfold deadL
  rw [List.mem_filter]
  simp [hasB_false]
theorem id_in {n : Nd} (h : n ∈ G.nodes) : n.id ∈ ids G := List.mem_map.2 ⟨n, h, rfl⟩
/-! ### counts add up -/
theorem count_sum : ∀ (l m : List Int), l.Nodup → (∀ z ∈ m, z ∈ l) → (l.map (fun z => m.count z)).sum = m.length
  | [], m, _, h => by
    cases m with
    | nil => rfl
    | cons z r => exact absurd (h z (List.mem_cons_self ..)) (by simp)
  | a :: l, m, hn, h => by
    obtain ⟨ha, hn'⟩ := List.nodup_cons.1 hn
    have ih := count_sum l (m.filter (fun z => z != a)) hn' (fun z hz => by
      obtain ⟨h1, h2⟩ := List.mem_filter.1 hz
      rcases List.mem_cons.1 (h z h1) with rfl | h3
      · simp at h2
      · exact h3)
    have e1 : l.map (fun z => (m.filter (fun z => z != a)).count z) = l.map (fun z => m.count z) := by
      refine List.map_congr_left (fun z hz => ?_)
      have hza : z ≠ a := fun e => ha (e ▸ hz)
      rw [List.count_filter (by simpa using hza)]
    rw [e1] at ih
    rw [List.map_cons, List.sum_cons, ih]
    have e2 : ∀ m : List Int, m.count a + (m.filter (fun z => z != a)).length = m.length := by
      intro m
      induction m with
      | nil => rfl
      | cons y r ih =>
        by_cases e : y = a
        · subst e
          simp
          omega
        · simp [e]
          omega
    exact e2 m
end
end Gr
end Go.Proofs.YtgbbaeojemihjaaGreatDoor
