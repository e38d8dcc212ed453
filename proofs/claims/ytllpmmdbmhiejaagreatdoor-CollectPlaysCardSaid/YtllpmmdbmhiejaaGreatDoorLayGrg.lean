/- The program's map of nodes: outs, nodes; Right. What is still to be looked at: what holds of the nodes that are left, and of the pile; a pile of slices in memory. The program's unreached: a labelled loop over a pile. The program's Reach, Dead. The program's Counts. Fits; alive. GraphTells, as a call. Closed, in plain words. -/
import Derived.Test.YtllpmmdbmhiejaaGreatDoorLayGra
import Derived.Laws.OwnMore
import Derived.WalkSmall
import Derived.Test.YtllpmmdbmhiejaaGreatDoorIter
import Derived.Deep.RegionHeld3
namespace Go.Proofs.YtllpmmdbmhiejaaGreatDoor
namespace Gr
open Go.RowKit Go.Maps

theorem Tryz.lawIntG : Keyed Tryz.prog 3 := int_keyed Tryz.underlying3
theorem map_only {H : Type} {P : Program} {k : TypeId} {R : Value → Option (DataW H × List MemPlace)} {w w' : World} {b n : Nat} {D : DataW H} {S : List Nat} (h : w.ownsMap P k R b n D) (ho : Only S w w') (hb : b ∉ S) : w'.ownsMap P k R b n D := by
  have hl := h.lt
  obtain ⟨es, clock, he, r⟩ := h
  exact ⟨es, clock, (ho.block b hl hb).trans he, r⟩
theorem map_isMap {H : Type} {P : Program} {k : TypeId} {R : Value → Option (DataW H × List MemPlace)} {w : World} {b n : Nat} {D : DataW H} (h : w.ownsMap P k R b n D) : IsMap D := by
  obtain ⟨es, clock, _, _, _, rfl⟩ := h
  exact ⟨_, rfl⟩
def heldR (v : Value) : Option (DataW Value × List MemPlace) := some (.held v, [])
theorem ky_ne {a b : Int} (h : a ≠ b) : Rt.ky a ≠ Rt.ky b := fun e => h (by simpa [Rt.ky] using e)
theorem ky_key (a : Int) : WideAt.IsKeyLit (Rt.ky a) := by unfold Rt.ky; simp [WideAt.IsKeyLit]

/-- Block m of wr is a map that has just the IDs that S tells, each with a value that reads, in w0, as its node's Out. -/
structure Lf (w0 : World) (G : Gp) (wr : World) (m n : Nat) (S : Int → Bool) (D : DataW Value) : Prop where
  own : wr.ownsMap Tryz.prog 3 heldR m n D
  has : ∀ z, Maps.has D (Rt.ky z) = S z
  outs : ∀ z, S z = true → ∃ x ∈ G.nodes, x.id = z ∧ ∃ v, (∀ zd, D.atKey (Rt.ky z) zd = .held v) ∧ Rd w0 v x.out
section
variable {w0 wr wr' : World} {G : Gp} {m n : Nat} {S : Int → Bool} {D : DataW Value}
end

end Gr
end Go.Proofs.YtllpmmdbmhiejaaGreatDoor

namespace Go.Proofs.YtllpmmdbmhiejaaGreatDoor
namespace Gr
open Go.RowKit Go.Maps

/-- S: what is left; P: the lists on the pile. -/
structure Iv (G : Gp) (fr : List Int) (S : Int → Bool) (P : List (List Int)) : Prop where
  gone : ∀ z ∈ ids G, S z = false → Rch G fr z
  pile : ∀ l ∈ P, ∀ o ∈ l, o ∈ ids G → Rch G fr o
  start : ∀ z ∈ ids G, z ∈ fr → S z = false ∨ ∃ l ∈ P, z ∈ l
  step : ∀ n ∈ G.nodes, S n.id = false → ∀ o ∈ n.out, S o = false ∨ ∃ l ∈ P, o ∈ l
  node : ∀ z, S z = true → z ∈ ids G
section
variable {G : Gp} {fr : List Int} {S : Int → Bool} {P Q : List (List Int)}
theorem Iv.first (fr : List Int) : Iv G fr (Rt.hasB (ids G)) [fr] where
  gone z hz hs := by rw [Rt.hasB_iff.2 hz] at hs; cases hs
  pile l hl o ho hn := by
    simp only [List.mem_singleton] at hl
    subst hl
    exact Rch.start hn ho
  start z hz hf := .inr ⟨fr, by simp, hf⟩
  step n hn hs o ho := by
    have : n.id ∈ ids G := List.mem_map.2 ⟨n, hn, rfl⟩
    rw [Rt.hasB_iff.2 this] at hs; cases hs
  node z hz := Rt.hasB_iff.1 hz
end

/-! ### a pile of slices -/
/-- The pile: its values, each with its ints, that read so in w0. -/
structure Pl (w0 wr : World) (B : Nat) (pv : Value) (vs : List Value) (P : List (List Int)) : Prop where
  row : wr.ownsRow B 52 1 pv vs.length vs
  len : vs.length = P.length
  rd : ∀ (i : Nat) (v : Value) (l : List Int), vs[i]? = some v → P[i]? = some l → Rd w0 v l
section
variable {w0 wr wr' : World} {B : Nat} {pv : Value} {vs : List Value} {P : List (List Int)}
theorem Pl.kept {row : Option Nat} (h : Pl w0 wr B pv vs P) (hg : wr.grownBy wr' row) (hne : pv.ownBlock = none ∨ pv.ownBlock ≠ row) : Pl w0 wr' B pv vs P := ⟨h.row.kept hg hne, h.len, h.rd⟩
end
section
variable (w : World)
end
end Gr
end Go.Proofs.YtllpmmdbmhiejaaGreatDoor

namespace Go.Proofs.YtllpmmdbmhiejaaGreatDoor
namespace Gr
open Go.RowKit Go.Maps

section
variable {v0 wr w1 : World} {G : Gp} {m n B pg t cap : Nat} {S : Int → Bool} {D : DataW Value} {qs : List Value} {tv : Value} {Q : List (List Int)} {top : List Int}
end

end Gr
end Go.Proofs.YtllpmmdbmhiejaaGreatDoor

namespace Go.Proofs.YtllpmmdbmhiejaaGreatDoor
namespace Gr
open Go.RowKit Go.Maps

theorem reach_filter {G : Gp} (hr : Ri G) (fr : List Int) : (ids G).filter (fun z => Rt.hasB (reachL G fr) z) = reachL G fr := by
  refine inc_ext (hr.inc.filter _) (reach_inc hr fr) (fun z => ?_)
  rw [List.mem_filter, Rt.hasB_iff]
  exact ⟨fun h => h.2, fun h => ⟨reach_ids h, h⟩⟩
end Gr
end Go.Proofs.YtllpmmdbmhiejaaGreatDoor

namespace Go.Proofs.YtllpmmdbmhiejaaGreatDoor
namespace Gr
open Go.RowKit Go.Maps

/-- Block t is a map that tells how often each stands in m. -/
structure Tm (wr : World) (t n : Nat) (m : List Int) (D : DataW Unit) : Prop where
  own : wr.ownsMap Tryz.prog 3 (plainElem Tryz.prog 3) t n D
  cnt : ∀ z, D.atKey (Rt.ky z) (.lit (.int .i64 0)) = .lit (.int .i64 (m.count z : Int))
section
variable {wr wr' : World} {t n : Nat} {m : List Int} {D : DataW Unit}
end
end Gr
end Go.Proofs.YtllpmmdbmhiejaaGreatDoor

namespace Go.Proofs.YtllpmmdbmhiejaaGreatDoor
namespace Gr
open Go.RowKit Go.Maps

def gYes : Gp := ⟨[⟨2, [5, 5]⟩, ⟨5, []⟩, ⟨7, [9]⟩, ⟨9, [7, 5]⟩], [2]⟩
def gNo : Gp := ⟨[⟨2, [3]⟩], []⟩
structure AL (w0 w : World) (q1 q2 a b c : Nat) : Prop where
  k1 : Blk w q1 63 [.slice (some ⟨a, 0, none⟩) 4 4, .slice (some ⟨b, 0, none⟩) 1 1]
  k2 : Blk w q2 63 [.slice (some ⟨c, 0, none⟩) 1 1, .slice none 0 0]
  yes : GrAt w (.agg #[.slice (some ⟨a, 0, none⟩) 4 4, .slice (some ⟨b, 0, none⟩) 1 1]) gYes
  no : GrAt w (.agg #[.slice (some ⟨c, 0, none⟩) 1 1, .slice none 0 0]) gNo
  below : Below w0.heap.size w0 w
section
variable {w0 w w' : World} {q1 q2 a b c : Nat}
end
end Gr
end Go.Proofs.YtllpmmdbmhiejaaGreatDoor

namespace Go.Proofs.YtllpmmdbmhiejaaGreatDoor
namespace Gr
open Go.RowKit Go.Maps

/-- A law's world: the box at q with the graph; the IDs that are asked. -/
structure LW (w0 w : World) (q : Nat) (nv rv fv : Value) (G : Gp) (fr : List Int) : Prop where
  box : Blk w q 63 [nv, rv]
  gr : GrAt w (.agg #[nv, rv]) G
  rd : Rd w fv fr
  below : Below w0.heap.size w0 w
section
variable {w0 w w' : World} {q : Nat} {nv rv fv u y : Value} {G : Gp} {fr L : List Int}
variable (hn : G.nodes.length ≤ 1000) (hP : (allP G).length ≤ 100000)
include hn in
include hn in
include hn in
include hn in
include hn hP in
include hn hP in
include hn in
include hn in
end
end Gr
end Go.Proofs.YtllpmmdbmhiejaaGreatDoor

namespace Go.Proofs.YtllpmmdbmhiejaaGreatDoor
namespace Gr
open Go.RowKit Go.Maps

section
variable {G : Gp} {fr : List Int}
/-! ### counts add up -/
end
end Gr
end Go.Proofs.YtllpmmdbmhiejaaGreatDoor
