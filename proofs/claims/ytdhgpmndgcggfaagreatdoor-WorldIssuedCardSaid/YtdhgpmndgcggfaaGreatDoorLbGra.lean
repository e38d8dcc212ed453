/- Graphs, in plain words: what may be; what is reached, by rounds of flags; counts. Ints that stand anywhere in memory; a graph in memory; one more behind a row; Has, within, rise, ids. The document's rise, within; both ids. The document's Right; Times. The document's Reach. The document's Dead, Counts. The program's map of nodes: outs, nodes; Right. What is still to be looked at: what holds of the nodes that are left, and of the pile; a pile of slices in memory. The program's unreached: a labelled loop over a pile. The program's Reach, Dead. The program's Counts. Fits; alive. GraphTells, as a call. Closed, in plain words. Trials, in plain words: what may be one; rests; held, white ones. The program's map of known nodes: nodes; whether there can be a trial. The program's rests: a map of gray ones; the closure that tells of each its rest. -/
import Derived.Test.YtdhgpmndgcggfaaGreatDoorLbRoot
import Derived.Test.YtdhgpmndgcggfaaGreatDoorLbBase
import Derived.Deep.LoopGhost
import Derived.StillTailTactics
import Derived.BigRegion
import Derived.Deep.QuietTactic
import Derived.BigQuiet
import Derived.Laws.MakeOwn
import Derived.Laws.OwnMore
import Derived.WalkSmall
import Derived.Test.YtdhgpmndgcggfaaGreatDoorIter
import Derived.Deep.RegionHeld3
namespace Go.Proofs.YtdhgpmndgcggfaaGreatDoor
namespace Gr
open Go.RowKit Go.Maps

structure Nd where
  id : Int
  out : List Int
structure Gp where
  nodes : List Nd
  roots : List Int
def ids (G : Gp) : List Int := G.nodes.map Nd.id
def riseF : Int → List Int → Bool
  | _, [] => true
  | b, x :: r => decide (b < x) && riseF x r
def withinB (l all : List Int) : Bool := l.all (fun x => Rt.hasB all x)
def rightB (G : Gp) : Bool := G.nodes.all (fun n => withinB n.out (ids G)) && (riseF (-1) (ids G) && riseF (-1) G.roots && withinB G.roots (ids G))

theorem riseF_iff : ∀ (l : List Int) (b : Int), riseF b l = true ↔ l.Pairwise (· < ·) ∧ ∀ z ∈ l, b < z
  | [], b => by simp [riseF]
  | x :: r, b => by
    simp only [riseF, Bool.and_eq_true, decide_eq_true_eq, riseF_iff r x, List.pairwise_cons, List.mem_cons]
    constructor
    · rintro ⟨h1, h2, h3⟩
      exact ⟨⟨h3, h2⟩, fun z hz => hz.elim (fun e => e ▸ h1) (fun hz => Int.lt_trans h1 (h3 z hz))⟩
    · rintro ⟨⟨h1, h2⟩, h3⟩
      exact ⟨h3 x (.inl rfl), h2, h1⟩
theorem withinB_iff {l all : List Int} : withinB l all = true ↔ ∀ x ∈ l, x ∈ all := by
  simp only [withinB, List.all_eq_true, Rt.hasB_iff]

/-- A graph that may be. -/
structure Ri (G : Gp) : Prop where
  inc : (ids G).Pairwise (· < ·)
  pos : ∀ z ∈ ids G, 0 ≤ z
  rinc : G.roots.Pairwise (· < ·)
  root : ∀ z ∈ G.roots, z ∈ ids G
  out : ∀ n ∈ G.nodes, ∀ o ∈ n.out, o ∈ ids G
theorem rightB_ri {G : Gp} (h : rightB G = true) : Ri G := by
  simp only [rightB, Bool.and_eq_true, List.all_eq_true, riseF_iff, withinB_iff] at h
  obtain ⟨h1, ⟨h2, h3⟩, h4⟩ := h
  exact ⟨h2.1, fun z hz => by have := h2.2 z hz; omega, h3.1, h4, h1⟩

theorem inc_ext : ∀ {l l' : List Int}, l.Pairwise (· < ·) → l'.Pairwise (· < ·) → (∀ z, z ∈ l ↔ z ∈ l') → l = l' := by
  intro l l' h h' hm
  have hn : l.Nodup := h.imp (fun hab e => by omega)
  have hn' : l'.Nodup := h'.imp (fun hab e => by omega)
  have hp : l.Perm l' := (List.perm_ext_iff_of_nodup hn hn').2 hm
  refine List.Perm.eq_of_pairwise (le := fun a b => a < b) (fun a b _ _ h1 h2 => ?_) h h' hp
  omega
theorem inc_nodup {l : List Int} (h : l.Pairwise (· < ·)) : l.Nodup := h.imp (fun hab e => by omega)

/-! ### reached, by what is closed -/
def Rch (G : Gp) (fr : List Int) (z : Int) : Prop :=
  ∀ S : Int → Prop, (∀ x ∈ ids G, x ∈ fr → S x) → (∀ n ∈ G.nodes, S n.id → ∀ o ∈ n.out, S o) → S z
theorem Rch.start {G : Gp} {fr : List Int} {z : Int} (h : z ∈ ids G) (hf : z ∈ fr) : Rch G fr z := fun _ h1 _ => h1 z h hf
theorem Rch.step {G : Gp} {fr : List Int} {n : Nd} (hn : n ∈ G.nodes) (h : Rch G fr n.id) {o : Int} (ho : o ∈ n.out) : Rch G fr o :=
  fun S h1 h2 => h2 n hn (h S h1 h2) o ho
theorem Rch.node {G : Gp} (hr : Ri G) {fr : List Int} {z : Int} (h : Rch G fr z) : z ∈ ids G :=
  h (fun x => x ∈ ids G) (fun _ hx _ => hx) (fun n hn _ o ho => hr.out n hn o ho)

/-! ### flags -/
def LeB : List Bool → List Bool → Prop
  | [], [] => True
  | a :: r, b :: s => (a = true → b = true) ∧ LeB r s
  | _, _ => False
theorem LeB.refl : ∀ l, LeB l l
  | [] => trivial
  | _ :: r => ⟨id, LeB.refl r⟩
theorem LeB.trans : ∀ {a b c : List Bool}, LeB a b → LeB b c → LeB a c
  | [], [], [], _, _ => trivial
  | _ :: _, _ :: _, _ :: _, h, h' => ⟨fun e => h'.1 (h.1 e), h.2.trans h'.2⟩
theorem LeB.anti : ∀ {a b : List Bool}, LeB a b → LeB b a → a = b
  | [], [], _, _ => rfl
  | x :: r, y :: s, h, h' => by
    rw [h.2.anti h'.2]
    congr 1
    cases x <;> cases y <;> simp_all [LeB]
theorem LeB.length : ∀ {a b : List Bool}, LeB a b → a.length = b.length
  | [], [], _ => rfl
  | _ :: _, _ :: _, h => by simp [h.2.length]
theorem LeB.count : ∀ {a b : List Bool}, LeB a b → a.count true ≤ b.count true ∧ (a.count true = b.count true → a = b)
  | [], [], _ => by simp
  | x :: r, y :: s, h => by
    obtain ⟨h1, h2⟩ := h.2.count
    have h0 := h.1
    cases x <;> cases y <;> simp_all <;> omega
theorem LeB.at : ∀ {a b : List Bool} {i : Nat}, LeB a b → a[i]? = some true → b[i]? = some true
  | x :: r, y :: s, 0, h, e => by simp at e ⊢; exact h.1 e
  | x :: r, y :: s, i + 1, h, e => by simp at e ⊢; exact h.2.at e
theorem LeB.set : ∀ (a : List Bool) (k : Nat) (v : Bool), LeB a (a.set k (a.getD k false || v))
  | [], _, _ => trivial
  | x :: r, 0, v => ⟨fun e => by simp [e], LeB.refl r⟩
  | x :: r, k + 1, v => ⟨id, by simpa using LeB.set r k v⟩

def outAt (G : Gp) (i : Nat) : List Int := ((G.nodes[i]?).map Nd.out).getD []
def idAt (G : Gp) (i : Nat) : Int := ((G.nodes[i]?).map Nd.id).getD 0
def upd (G : Gp) (f : List Bool) (i k : Nat) : List Bool := f.set k (f.getD k false || (f.getD i false && Rt.hasB (outAt G i) (idAt G k)))
def rowK (G : Gp) (f : List Bool) (i : Nat) : Nat → List Bool
  | 0 => f
  | k + 1 => upd G (rowK G f i k) i k
def rowI (G : Gp) (f : List Bool) : Nat → List Bool
  | 0 => f
  | i + 1 => rowK G (rowI G f i) i G.nodes.length
def rowN (G : Gp) (f : List Bool) : Nat → List Bool
  | 0 => f
  | m + 1 => rowI G (rowN G f m) G.nodes.length
def is0 (G : Gp) (fr : List Int) : List Bool := (ids G).map (Rt.hasB fr)
def fin (G : Gp) (fr : List Int) : List Bool := rowN G (is0 G fr) G.nodes.length
def sel : List Int → List Bool → List Int
  | x :: r, b :: s => if b then x :: sel r s else sel r s
  | _, _ => []
def reachL (G : Gp) (fr : List Int) : List Int := sel (ids G) (fin G fr)
section
variable {G : Gp}
theorem upd_le (f : List Bool) (i k : Nat) : LeB f (upd G f i k) := LeB.set f k _
theorem rowK_le (f : List Bool) (i : Nat) : ∀ k, LeB f (rowK G f i k)
  | 0 => LeB.refl f
  | k + 1 => (rowK_le f i k).trans (upd_le _ i k)
theorem rowI_le (f : List Bool) : ∀ i, LeB f (rowI G f i)
  | 0 => LeB.refl f
  | i + 1 => (rowI_le f i).trans (rowK_le _ i _)
theorem rowN_le (f : List Bool) : ∀ m, LeB f (rowN G f m)
  | 0 => LeB.refl f
  | m + 1 => (rowN_le f m).trans (rowI_le _ _)
theorem rowK_mono (f : List Bool) (i : Nat) {k k' : Nat} (h : k ≤ k') : LeB (rowK G f i k) (rowK G f i k') := by
  induction h with
  | refl => exact LeB.refl _
  | step _ ih => exact ih.trans (upd_le _ i _)
theorem rowI_mono (f : List Bool) {i i' : Nat} (h : i ≤ i') : LeB (rowI G f i) (rowI G f i') := by
  induction h with
  | refl => exact LeB.refl _
  | step _ ih => exact ih.trans (rowK_le _ _ _)
theorem rowN_len (f : List Bool) (m : Nat) : (rowN G f m).length = f.length := (rowN_le f m).length.symm
/-- Flags that a round leaves as they are: each single step leaves them so. -/
theorem fixed_step {f : List Bool} (h : rowI G f G.nodes.length = f) {i k : Nat} (hi : i < G.nodes.length) (hk : k < G.nodes.length) : upd G f i k = f := by
  have a1 : rowI G f i = f := LeB.anti (by have := rowI_mono (G := G) f (Nat.le_of_lt hi); rwa [h] at this) (rowI_le f i)
  have b1 : LeB (rowI G f (i + 1)) f := by have := rowI_mono (G := G) f (show i + 1 ≤ G.nodes.length by omega); rwa [h] at this
  have e1 : rowI G f (i + 1) = rowK G f i G.nodes.length := by
    show rowK G (rowI G f i) i _ = _
    rw [a1]
  rw [e1] at b1
  have a2 : rowK G f i k = f := LeB.anti ((rowK_mono f i (Nat.le_of_lt hk)).trans b1) (rowK_le f i k)
  have a3 : rowK G f i (k + 1) = f := LeB.anti ((rowK_mono f i (show k + 1 ≤ G.nodes.length by omega)).trans b1) (rowK_le f i (k + 1))
  have e2 : rowK G f i (k + 1) = upd G (rowK G f i k) i k := rfl
  rw [e2, a2] at a3
  exact a3
theorem rounds (f : List Bool) : ∀ m, rowI G (rowN G f m) G.nodes.length = rowN G f m ∨ m ≤ (rowN G f m).count true
  | 0 => .inr (Nat.zero_le _)
  | m + 1 => by
    by_cases hx : rowI G (rowN G f m) G.nodes.length = rowN G f m
    · left
      show rowI G (rowI G (rowN G f m) G.nodes.length) G.nodes.length = rowI G (rowN G f m) G.nodes.length
      rw [hx, hx]
    · right
      rcases rounds f m with h | h
      · exact absurd h hx
      · obtain ⟨h1, h2⟩ := (rowI_le (G := G) (rowN G f m) G.nodes.length).count
        show m + 1 ≤ (rowI G (rowN G f m) G.nodes.length).count true
        have : (rowN G f m).count true ≠ (rowI G (rowN G f m) G.nodes.length).count true := fun e => hx (h2 e).symm
        omega
theorem is0_len (fr : List Int) : (is0 G fr).length = G.nodes.length := by simp [is0, ids]
theorem fin_len (fr : List Int) : (fin G fr).length = G.nodes.length := by unfold fin; rw [rowN_len, is0_len]
theorem all_true : ∀ {l : List Bool}, l.length ≤ l.count true → ∀ i, i < l.length → l[i]? = some true
  | x :: r, h, i, hi => by
    have hc := List.count_le_length (a := true) (l := r)
    cases x
    · simp at h; omega
    · simp at h
      cases i with
      | zero => simp
      | succ i => simp at hi ⊢; simpa using all_true h i hi
/-- The flags at the end are closed. -/
theorem fin_closed (fr : List Int) {i k : Nat} (hi : i < G.nodes.length) (hk : k < G.nodes.length) (h : (fin G fr)[i]? = some true) (hh : Rt.hasB (outAt G i) (idAt G k) = true) : (fin G fr)[k]? = some true := by
  have hl := fin_len (G := G) fr
  rcases rounds (G := G) (is0 G fr) G.nodes.length with hx | hx
  · have hs := fixed_step hx hi hk
    have hs' : (fin G fr).set k ((fin G fr).getD k false || ((fin G fr).getD i false && Rt.hasB (outAt G i) (idAt G k))) = fin G fr := hs
    have hi2 : (fin G fr).getD i false = true := by simp [List.getD, h]
    rw [hi2, hh, Bool.and_self, Bool.or_true] at hs'
    rw [← hs']
    simp [hl, hk]
  · exact all_true (by show (fin G fr).length ≤ (fin G fr).count true; rw [hl]; exact hx) k (by omega)

/-- Flags that stand for what is reached alone. -/
def Snd (G : Gp) (fr : List Int) (f : List Bool) : Prop := f.length = G.nodes.length ∧ ∀ (i : Nat) (n : Nd), G.nodes[i]? = some n → f[i]? = some true → Rch G fr n.id
theorem outAt_is {i : Nat} {n : Nd} (h : G.nodes[i]? = some n) : outAt G i = n.out := by simp [outAt, h]
theorem idAt_is {i : Nat} {n : Nd} (h : G.nodes[i]? = some n) : idAt G i = n.id := by simp [idAt, h]
theorem node_at {i : Nat} (h : i < G.nodes.length) : ∃ n, G.nodes[i]? = some n := ⟨_, List.getElem?_eq_getElem h⟩
theorem getD_true {f : List Bool} {i : Nat} (h : f.getD i false = true) : f[i]? = some true := by
  simp only [List.getD] at h
  cases e : f[i]? with
  | none => rw [e] at h; simp at h
  | some b => rw [e] at h; simp at h; rw [h]
theorem Snd.upd {fr : List Int} {f : List Bool} (h : Snd G fr f) {i k : Nat} (hi : i < G.nodes.length) (hk : k < G.nodes.length) : Snd G fr (upd G f i k) := by
  refine ⟨by unfold Gr.upd; simp [h.1], fun j n hj hf => ?_⟩
  unfold Gr.upd at hf
  by_cases hjk : k = j
  · subst hjk
    rw [List.getElem?_set_self (by rw [h.1]; exact hk)] at hf
    simp only [Option.some.injEq, Bool.or_eq_true, Bool.and_eq_true] at hf
    rcases hf with hf | ⟨hf, hh⟩
    · exact h.2 k n hj (getD_true hf)
    · obtain ⟨m, hm⟩ := node_at hi
      rw [outAt_is hm, idAt_is hj, Rt.hasB_iff] at hh
      exact (h.2 i m hm (getD_true hf)).step (List.mem_of_getElem? hm) hh
  · rw [List.getElem?_set_ne hjk] at hf
    exact h.2 j n hj hf
theorem Snd.rowK {fr : List Int} {f : List Bool} (h : Snd G fr f) {i : Nat} (hi : i < G.nodes.length) : ∀ k, k ≤ G.nodes.length → Snd G fr (rowK G f i k)
  | 0, _ => h
  | k + 1, hk => (Snd.rowK h hi k (by omega)).upd hi (by omega)
theorem Snd.rowI {fr : List Int} {f : List Bool} (h : Snd G fr f) : ∀ i, i ≤ G.nodes.length → Snd G fr (rowI G f i)
  | 0, _ => h
  | i + 1, hi => (Snd.rowI h i (by omega)).rowK (by omega) _ (Nat.le_refl _)
theorem Snd.rowN {fr : List Int} {f : List Bool} (h : Snd G fr f) : ∀ m, Snd G fr (rowN G f m)
  | 0 => h
  | m + 1 => (Snd.rowN h m).rowI _ (Nat.le_refl _)
theorem ids_at {i : Nat} {n : Nd} (h : G.nodes[i]? = some n) : (ids G)[i]? = some n.id := by simp [ids, h]
theorem ids_at_inv {i : Nat} {z : Int} (h : (ids G)[i]? = some z) : ∃ n, G.nodes[i]? = some n ∧ n.id = z := by
  simpa [ids] using h
theorem Snd.fin (fr : List Int) : Snd G fr (fin G fr) := by
  refine Snd.rowN ⟨is0_len fr, fun i n hi hf => ?_⟩ _
  unfold is0 at hf
  rw [List.getElem?_map, ids_at hi] at hf
  simp only [Option.map_some, Option.some.injEq, Rt.hasB_iff] at hf
  exact Rch.start (List.mem_map.2 ⟨n, List.mem_of_getElem? hi, rfl⟩) hf

theorem sel_cons (x : Int) (r : List Int) (b : Bool) (s : List Bool) : sel (x :: r) (b :: s) = if b then x :: sel r s else sel r s := rfl
theorem mem_sel {z : Int} : ∀ {l : List Int} {f : List Bool}, z ∈ sel l f ↔ ∃ i : Nat, l[i]? = some z ∧ f[i]? = some true
  | [], f => by simp [sel]
  | x :: r, [] => by simp [sel]
  | x :: r, b :: s => by
    have ih := mem_sel (z := z) (l := r) (f := s)
    have e : z ∈ sel (x :: r) (b :: s) ↔ (z = x ∧ b = true) ∨ z ∈ sel r s := by
      rw [sel_cons]
      cases b <;> simp
    rw [e, ih]
    constructor
    · rintro (⟨rfl, rfl⟩ | ⟨i, h1, h2⟩)
      · exact ⟨0, rfl, rfl⟩
      · exact ⟨i + 1, by simpa using h1, by simpa using h2⟩
    · rintro ⟨i, h1, h2⟩
      cases i with
      | zero => left; simp at h1 h2; exact ⟨h1.symm, h2⟩
      | succ i => right; exact ⟨i, by simpa using h1, by simpa using h2⟩
theorem sel_sub : ∀ (l : List Int) (f : List Bool), (sel l f).Sublist l
  | [], _ => by simp [sel]
  | x :: r, [] => by simp [sel]
  | x :: r, b :: s => by
    rw [sel_cons]
    cases b
    · exact (sel_sub r s).cons _
    · exact (sel_sub r s).cons_cons _
theorem reach_inc (hr : Ri G) (fr : List Int) : (reachL G fr).Pairwise (· < ·) := hr.inc.sublist (sel_sub _ _)
theorem reach_ids {fr : List Int} {z : Int} (h : z ∈ reachL G fr) : z ∈ ids G := (sel_sub _ _).subset h
theorem same_id (hr : Ri G) {i j : Nat} {n m : Nd} (hi : G.nodes[i]? = some n) (hj : G.nodes[j]? = some m) (h : n.id = m.id) : i = j := by
  have h1 := ids_at hi
  have h2 := ids_at hj
  rw [h] at h1
  have hl : i < (ids G).length := (List.getElem?_eq_some_iff.1 h1).1
  exact (List.getElem?_inj hl (inc_nodup hr.inc)).1 (h1.trans h2.symm)
theorem mem_reach (hr : Ri G) {fr : List Int} {z : Int} : z ∈ reachL G fr ↔ Rch G fr z := by
  constructor
  · intro h
    obtain ⟨i, h1, h2⟩ := mem_sel.1 h
    obtain ⟨n, hn, rfl⟩ := ids_at_inv h1
    exact (Snd.fin fr).2 i n hn h2
  · intro h
    refine h (fun x => x ∈ reachL G fr) (fun x hx hf => ?_) (fun n hn hs o ho => ?_)
    · obtain ⟨i, hi⟩ := List.mem_iff_getElem?.1 hx
      refine mem_sel.2 ⟨i, hi, (rowN_le (is0 G fr) G.nodes.length).at ?_⟩
      unfold is0
      rw [List.getElem?_map, hi]
      simp only [Option.map_some, Option.some.injEq, Rt.hasB_iff]
      exact hf
    · obtain ⟨i, hi, hfl⟩ := mem_sel.1 hs
      obtain ⟨n', hn', he⟩ := ids_at_inv hi
      obtain ⟨j, hj⟩ := List.mem_iff_getElem?.1 hn
      obtain rfl := same_id hr hn' hj he
      rw [hj] at hn'
      obtain rfl : n = n' := by simpa using hn'
      obtain ⟨k, hk⟩ := List.mem_iff_getElem?.1 (hr.out n hn o ho)
      obtain ⟨m, hm, rfl⟩ := ids_at_inv hk
      refine mem_sel.2 ⟨k, hk, fin_closed fr (List.getElem?_eq_some_iff.1 hj).1 (List.getElem?_eq_some_iff.1 hm).1 hfl ?_⟩
      rw [outAt_is hj, idAt_is hm, Rt.hasB_iff]
      exact ho
end
end Gr
end Go.Proofs.YtdhgpmndgcggfaaGreatDoor

namespace Go.Proofs.YtdhgpmndgcggfaaGreatDoor
namespace Gr
open Go.RowKit Go.Maps

/-- The value v has the ints of L, wherever they stand. -/
def Rd (w : World) (v : Value) (L : List Int) : Prop :=
  (∀ x ∈ L, i64ok x) ∧ ∃ (A : Option Addr) (cap : Nat), v = .slice A L.length cap ∧ L.length ≤ cap ∧ cap ≤ 9223372036854775807 ∧
    ∀ j x, L[j]? = some x → ∃ b o, A = some ⟨b, o, none⟩ ∧ b < w.heap.size ∧ w.cell? ⟨b, o + j, none⟩ = some (.int .i64 x)
section
variable {w w' : World} {v gv : Value} {L : List Int} {G : Gp}
theorem Rd.of_own (h : Own w v L) (ho : ∀ x ∈ L, i64ok x) : Rd w v L := by
  obtain ⟨A, cap, rfl, _, h1, h2, h3⟩ := h.form
  refine ⟨ho, A, cap, rfl, h1, h2, fun j x hx => ?_⟩
  obtain ⟨g, e, hc⟩ := h3 j x hx
  exact ⟨g, 0, e, World.block_lt_of_cell? w ⟨g, j, none⟩ hc, by simpa using hc⟩

end
end Gr
end Go.Proofs.YtdhgpmndgcggfaaGreatDoor

namespace Go.Proofs.YtdhgpmndgcggfaaGreatDoor
namespace Gr
open Go.RowKit Go.Maps

end Gr
end Go.Proofs.YtdhgpmndgcggfaaGreatDoor

namespace Go.Proofs.YtdhgpmndgcggfaaGreatDoor
namespace Gr
open Go.RowKit Go.Maps

end Gr
end Go.Proofs.YtdhgpmndgcggfaaGreatDoor

namespace Go.Proofs.YtdhgpmndgcggfaaGreatDoor
namespace Gr
open Go.RowKit Go.Maps

def reachA (G : Gp) (fr : List Int) : List Int := if rightB G then reachL G fr else []
/-! ### flags in memory -/
end Gr
end Go.Proofs.YtdhgpmndgcggfaaGreatDoor

namespace Go.Proofs.YtdhgpmndgcggfaaGreatDoor
namespace Gr
open Go.RowKit Go.Maps

end Gr
end Go.Proofs.YtdhgpmndgcggfaaGreatDoor

namespace Go.Proofs.YtdhgpmndgcggfaaGreatDoor
namespace Gr
open Go.RowKit Go.Maps

theorem Tryz.lawIntG : Keyed Tryz.prog 3 := int_keyed Tryz.underlying3
theorem map_only {H : Type} {P : Program} {k : TypeId} {R : Value → Option (DataW H × List MemPlace)} {w w' : World} {b n : Nat} {D : DataW H} {S : List Nat} (h : w.ownsMap P k R b n D) (ho : Only S w w') (hb : b ∉ S) : w'.ownsMap P k R b n D := by
  have hl := h.lt
  obtain ⟨es, clock, he, r⟩ := h
  exact ⟨es, clock, (ho.block b hl hb).trans he, r⟩
theorem map_isMap {H : Type} {P : Program} {k : TypeId} {R : Value → Option (DataW H × List MemPlace)} {w : World} {b n : Nat} {D : DataW H} (h : w.ownsMap P k R b n D) : IsMap D := by
  obtain ⟨es, clock, _, _, _, rfl⟩ := h
  exact ⟨_, rfl⟩
def heldR (v : Value) : Option (DataW Value × List MemPlace) := some (.held v, [])
theorem ky_ne {a b : Int} (h : a ≠ b) : Rt.ky a ≠ Rt.ky b := fun e => h (by simpa [Rt.ky] using e)
theorem ky_key (a : Int) : WideAt.IsKeyLit (Rt.ky a) := by unfold Rt.ky; simp [WideAt.IsKeyLit]

end Gr
end Go.Proofs.YtdhgpmndgcggfaaGreatDoor

namespace Go.Proofs.YtdhgpmndgcggfaaGreatDoor
namespace Gr
open Go.RowKit Go.Maps

/-! ### a pile of slices -/
end Gr
end Go.Proofs.YtdhgpmndgcggfaaGreatDoor

namespace Go.Proofs.YtdhgpmndgcggfaaGreatDoor
namespace Gr
open Go.RowKit Go.Maps

end Gr
end Go.Proofs.YtdhgpmndgcggfaaGreatDoor

namespace Go.Proofs.YtdhgpmndgcggfaaGreatDoor
namespace Gr
open Go.RowKit Go.Maps

end Gr
end Go.Proofs.YtdhgpmndgcggfaaGreatDoor

namespace Go.Proofs.YtdhgpmndgcggfaaGreatDoor
namespace Gr
open Go.RowKit Go.Maps

/-- Block t is a map that tells how often each stands in m. -/
structure Tm (wr : World) (t n : Nat) (m : List Int) (D : DataW Unit) : Prop where
  own : wr.ownsMap Tryz.prog 3 (plainElem Tryz.prog 3) t n D
  cnt : ∀ z, D.atKey (Rt.ky z) (.lit (.int .i64 0)) = .lit (.int .i64 (m.count z : Int))
end Gr
end Go.Proofs.YtdhgpmndgcggfaaGreatDoor

namespace Go.Proofs.YtdhgpmndgcggfaaGreatDoor
namespace Gr
open Go.RowKit Go.Maps

end Gr
end Go.Proofs.YtdhgpmndgcggfaaGreatDoor

namespace Go.Proofs.YtdhgpmndgcggfaaGreatDoor
namespace Gr
open Go.RowKit Go.Maps

end Gr
end Go.Proofs.YtdhgpmndgcggfaaGreatDoor

namespace Go.Proofs.YtdhgpmndgcggfaaGreatDoor
namespace Gr
open Go.RowKit Go.Maps

end Gr
end Go.Proofs.YtdhgpmndgcggfaaGreatDoor

namespace Go.Proofs.YtdhgpmndgcggfaaGreatDoor
namespace Tr
open Go.RowKit Go.Maps Gr

/-- How often gray ones point. -/
def ptrs (gray : List Int) (l : List Nd) : List Int := (l.filter (fun n => Rt.hasB gray n.id)).flatMap Nd.out
def csum : List (Nd × Int) → Int → Int
  | [], _ => 0
  | (n, c) :: r, z => (if n.id = z then c else 0) + csum r z
def restX (G : Gp) (k gray : List Int) (z : Int) : Int := csum (G.nodes.zip k) z - ((ptrs gray G.nodes).count z : Int)
def restV (G : Gp) (k gray : List Int) (z : Int) : Int := wrap64 (restX G k gray z)
def nnB (k : List Int) : Bool := k.all (fun x => decide (0 ≤ x))
def trialB (G : Gp) (k c : List Int) : Bool := rightB G && decide (k.length = G.nodes.length) && nnB k && withinB c (ids G)
def grayA (G : Gp) (c : List Int) : List Int := if withinB c (ids G) then reachA G c else []
def heldL (G : Gp) (k gray : List Int) : List Int := gray.filter (fun z => decide (0 < restV G k gray z))
def whiteL (G : Gp) (k gray : List Int) : List Int := gray.filter (fun z => !Rt.hasB (reachL G (heldL G k gray)) z)
def whiteA (G : Gp) (k c : List Int) : List Int := if trialB G k c then whiteL G k (reachL G c) else []
section
variable {G : Gp} {k gray : List Int} {j : Nat} {x : Nd} {c : Int}
theorem take_snoc {α : Type} {l : List α} {a : α} (h : l[j]? = some a) : l.take (j + 1) = l.take j ++ [a] := by
  obtain ⟨hj, rfl⟩ := List.getElem?_eq_some_iff.1 h
  exact List.take_succ_eq_append_getElem hj
theorem csum_none : ∀ (l : List Nd) (k : List Int) (z : Int), z ∉ l.map Nd.id → csum (l.zip k) z = 0
  | [], k, z, _ => by simp [csum]
  | n :: r, [], z, _ => by simp [csum]
  | n :: r, c :: k, z, h => by
    simp only [List.map_cons, List.mem_cons, not_or] at h
    simp only [List.zip_cons_cons, csum]
    rw [if_neg (fun e => h.1 e.symm), csum_none r k z h.2]
    rfl
theorem csum_at : ∀ (l : List Nd) (k : List Int) (j : Nat) (x : Nd) (c : Int), (l.map Nd.id).Pairwise (· < ·) → l[j]? = some x → k[j]? = some c → csum (l.zip k) x.id = c
  | n :: r, d :: k, 0, x, c, hp, h1, h2 => by
    simp at h1 h2
    subst h1 h2
    simp only [List.map_cons, List.pairwise_cons] at hp
    simp only [List.zip_cons_cons, csum, if_true]
    rw [csum_none r k n.id (fun h => by have := hp.1 _ h; omega)]
    omega
  | n :: r, d :: k, j + 1, x, c, hp, h1, h2 => by
    simp only [List.map_cons, List.pairwise_cons] at hp
    simp only [List.getElem?_cons_succ] at h1 h2
    have hm : x.id ∈ r.map Nd.id := List.mem_map.2 ⟨x, List.mem_of_getElem? h1, rfl⟩
    have := hp.1 _ hm
    simp only [List.zip_cons_cons, csum]
    rw [if_neg (by omega), csum_at r k j x c hp.2 h1 h2]
    omega
theorem restX_at (hr : Ri G) (hx : G.nodes[j]? = some x) (hc : k[j]? = some c) : restX G k gray x.id = c - ((ptrs gray G.nodes).count x.id : Int) := by
  unfold restX
  rw [csum_at G.nodes k j x c hr.inc hx hc]
theorem wrap_in (a c : Int) : wrap64 (wrap64 a + c) = wrap64 (a + c) := wrap64_add a c
theorem wrap_out (a c : Int) : wrap64 (wrap64 a - c) = wrap64 (a - c) := by unfold wrap64; omega
end
end Tr
end Go.Proofs.YtdhgpmndgcggfaaGreatDoor

namespace Go.Proofs.YtdhgpmndgcggfaaGreatDoor
namespace Tr
open Go.RowKit Go.Maps Gr

end Tr
end Go.Proofs.YtdhgpmndgcggfaaGreatDoor

namespace Go.Proofs.YtdhgpmndgcggfaaGreatDoor
namespace Tr
open Go.RowKit Go.Maps Gr

theorem Tryz.zeroIntT (w : World) : (zeroValue 3).run Tryz.prog w = .ok (.int .i64 0) w := by kernel_rfl
theorem tight {H : Type} {P : Program} {k : TypeId} {R : Value → Option (DataW H × List MemPlace)} {w : World} {b n : Nat} {D : DataW H} (h : w.ownsMap P k R b n D) : w.ownsMap P k R b (Maps.size D) D := by
  obtain ⟨es, clock, hb, F, _, rfl⟩ := h
  exact ⟨es, clock, hb, F, by simp [Maps.size, length_sorted], rfl⟩
end Tr
end Go.Proofs.YtdhgpmndgcggfaaGreatDoor
