/- The document's list in memory, and the contracts of its Gen, Taken, count, Free, Retired. The document's Give. The document's Take. The document's Take of a cell. -/
import Derived.Test.YtgbbaeojemihjaaGreatDoorLayFreeB
import Derived.Deep.AppendLies
import Derived.BigRegion
import Derived.Deep.RegionLaw
namespace Go.Proofs.YtgbbaeojemihjaaGreatDoor
open Go.RowKit

def rfFoot (hb gb ib : Nat) (u : Value) : List Nat := hb :: gb :: ib :: u.ownBlock.toList
theorem mem_rfFoot {hb gb ib g : Nat} {u : Value} : g ∈ rfFoot hb gb ib u ↔ g = hb ∨ g = gb ∨ g = ib ∨ u.ownBlock = some g := by
  simp [rfFoot]
/-- The document's list lies in block hb, generations in gb, what cells are in ib, its pile is the value u. -/
structure RfIn (w : World) (hb gb ib : Nat) (u : Value) (x : Sh) (gs is pl : List Int) : Prop where
  head : Blk w hb 183 [.int .i64 x.a, .int .i64 x.b, .int .i64 x.c, .int .i64 x.q, .int .i64 x.s, .slice (some ⟨gb, 0, none⟩) gs.length gs.length, .slice (some ⟨ib, 0, none⟩) is.length is.length, u]
  gen : Blk w gb 3 (vals gs)
  iss : Blk w ib 3 (vals is)
  pile : Own w u pl
  ne : hb ≠ gb ∧ hb ≠ ib ∧ gb ≠ ib
  far : ∀ g, u.ownBlock = some g → g ≠ hb ∧ g ≠ gb ∧ g ≠ ib
  len : gs.length ≤ 192 ∧ is.length = gs.length
section
variable {w w' : World} {hb gb ib : Nat} {u : Value} {x : Sh} {gs is pl : List Int}
theorem RfIn.only {S : List Nat} (h : RfIn w hb gb ib u x gs is pl) (ho : Only S w w') (hS : ∀ g ∈ rfFoot hb gb ib u, g ∉ S) : RfIn w' hb gb ib u x gs is pl :=
  ⟨h.head.only ho (hS _ (mem_rfFoot.2 (by simp))), h.gen.only ho (hS _ (mem_rfFoot.2 (by simp))), h.iss.only ho (hS _ (mem_rfFoot.2 (by simp))), h.pile.only ho (fun g hg => hS g (mem_rfFoot.2 (by simp [hg]))), h.ne, h.far, h.len⟩
theorem RfIn.foot_lt (h : RfIn w hb gb ib u x gs is pl) : ∀ g ∈ rfFoot hb gb ib u, g < w.heap.size := by
  intro g hg
  rcases mem_rfFoot.1 hg with rfl | rfl | rfl | hg
  · exact h.head.lt
  · exact h.gen.lt
  · exact h.iss.lt
  · exact h.pile.lt hg
theorem RfIn.more (h : RfIn w hb gb ib u x gs is pl) (hb' : Below w.heap.size w w') : RfIn w' hb gb ib u x gs is pl := h.only (Only.of_below (S := []) hb') (by simp)
theorem RfIn.drew (h : RfIn w hb gb ib u x gs is pl) : RfIn w.drew hb gb ib u x gs is pl := ⟨h.head, h.gen, h.iss, h.pile, h.ne, h.far, h.len⟩
theorem RfIn.cells (h : RfIn w hb gb ib u x gs is pl) : w.cell? ⟨hb, 0, none⟩ = some (.int .i64 x.a) ∧ w.cell? ⟨hb, 1, none⟩ = some (.int .i64 x.b) ∧ w.cell? ⟨hb, 2, none⟩ = some (.int .i64 x.c) ∧ w.cell? ⟨hb, 3, none⟩ = some (.int .i64 x.q) ∧ w.cell? ⟨hb, 4, none⟩ = some (.int .i64 x.s) ∧
    w.cell? ⟨hb, 5, none⟩ = some (.slice (some ⟨gb, 0, none⟩) gs.length gs.length) ∧ w.cell? ⟨hb, 6, none⟩ = some (.slice (some ⟨ib, 0, none⟩) is.length is.length) ∧ w.cell? ⟨hb, 7, none⟩ = some u :=
  ⟨h.head.cell rfl, h.head.cell rfl, h.head.cell rfl, h.head.cell rfl, h.head.cell rfl, h.head.cell rfl, h.head.cell rfl, h.head.cell rfl⟩
end
section
variable {w : World} {hb gb ib : Nat} {u : Value} {x : Sh} {gs is pl : List Int}
end
end Go.Proofs.YtgbbaeojemihjaaGreatDoor

namespace Go.Proofs.YtgbbaeojemihjaaGreatDoor
open Go.RowKit

section
variable {w w1 : World} {hb gb ib : Nat} {u : Value} {x : Sh} {gs is pl : List Int}
theorem RfIn.repile (h : RfIn w hb gb ib u x gs is pl) {T : List Nat} (ho : Only T w w1) (hT : ∀ g ∈ T, u.ownBlock = some g ∨ w.heap.size ≤ g) {u' : Value} {L : List Int} (hu' : Own w1 u' L)
    (hat : ∀ g, u'.ownBlock = some g → u.ownBlock = some g ∨ w.heap.size ≤ g) : RfIn (w1.setCell ⟨hb, 7, none⟩ u') hb gb ib u' x gs is L := by
  have l1 := h.head.lt
  have l2 := h.gen.lt
  have l3 := h.iss.lt
  have out : ∀ k, k < w.heap.size → (∀ g, u.ownBlock = some g → g ≠ k) → k ∉ T := fun k hk hf hm => by
    rcases hT _ hm with e | e
    · exact hf k e rfl
    · omega
  have far' : ∀ g, u'.ownBlock = some g → g ≠ hb ∧ g ≠ gb ∧ g ≠ ib := fun g hg => by
    rcases hat g hg with e | e
    · exact h.far g e
    · omega
  have hs : Only [hb] w1 (w1.setCell ⟨hb, 7, none⟩ u') := (Only.refl [hb] w1).setCell (p := ⟨hb, 7, none⟩) (by simp) u'
  refine ⟨?_, ?_, ?_, hu'.only hs (fun g hg => by simpa using (far' g hg).1), h.ne, far', h.len⟩
  · have := (h.head.only ho (out _ l1 (fun g hg => (h.far g hg).1))).set 7 u'
    simpa using this
  · exact (h.gen.only ho (out _ l2 (fun g hg => (h.far g hg).2.1))).only hs (by simpa using fun e => h.ne.1 e.symm)
  · exact (h.iss.only ho (out _ l3 (fun g hg => (h.far g hg).2.2))).only hs (by simpa using fun e => h.ne.2.1 e.symm)
end

section
variable {w : World} {hb gb ib : Nat} {u : Value} {x : Sh} {gs is pl : List Int}
end
end Go.Proofs.YtgbbaeojemihjaaGreatDoor

namespace Go.Proofs.YtgbbaeojemihjaaGreatDoor
open Go.RowKit
attribute [local go_sem ↓] Go.wp_at_zero Go.wp_at_succ

section
variable {w : World} {hb gb ib : Nat} {u : Value} {x : Sh} {gs is pl : List Int}
end
end Go.Proofs.YtgbbaeojemihjaaGreatDoor

namespace Go.Proofs.YtgbbaeojemihjaaGreatDoor
open Go.RowKit
attribute [local go_sem ↓] Go.wp_at_zero Go.wp_at_succ

theorem Own.drew {w : World} {v : Value} {L : List Int} (h : Own w v L) : Own w.drew v L := h
theorem Own.alloc {w : World} {v : Value} {L : List Int} (h : Own w v L) (o : Obj) : Own (w.alloc o) v L := World.ownsRow.alloc h o

section
variable {w wr w1 w2 : World} {hb gb ib : Nat} {u : Value} {x : Sh} {gs is pl A B : List Int}
end
end Go.Proofs.YtgbbaeojemihjaaGreatDoor
