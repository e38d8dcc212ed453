/- The document's cells: Free. The document's cells: what Begin has while it makes them. The document's cells: Begin. One state for a law's world: the program's cells, the document's beside them, and blocks that are kept. -/
import Derived.Test.YtgbbaeojemihjaaGreatDoorLayCellD
import Derived.Deep.AppendLies
import Derived.Deep.RegionLaw
import Derived.Test.YtgbbaeojemihjaaGreatDoorLayBase
namespace Go.Proofs.YtgbbaeojemihjaaGreatDoor
open Go.RowKit
attribute [local go_sem ↓] Go.wp_at_zero Go.wp_at_succ

section
variable {w w' : World} {db hb gb ib : Nat} {u uc uv : Value} {R : List (Nat × Nat)} {x : Sh} {cs : List St} {pl ct : List Int} {vs : List (List Vl)}
end
end Go.Proofs.YtgbbaeojemihjaaGreatDoor

namespace Go.Proofs.YtgbbaeojemihjaaGreatDoor
open Go.RowKit

structure BC (w0 w : World) (db hb gb ib : Nat) (u uc uv : Value) (R : List (Nat × Nat)) (x : Sh) (m : Nat) : Prop where
  head : Blk w db 105 [.pointer (some ⟨hb, 0, none⟩), uc, uv]
  rf : RfIn w hb gb ib u x (List.replicate x.n x.s) (List.replicate x.n 0) (revR x.n x.n)
  cts : Own w uc (List.replicate m 0)
  rows : OwnR w uv R
  row : ∀ (i g n : Nat), R[i]? = some (g, n) → n = x.sl i ∧ Blk w g 41 ((nils n).flatMap Vl.cells)
  sh : Blk w w0.heap.size 24 x.vals
  lo : ∀ g ∈ dcFoot db hb gb ib u uc uv R, w0.heap.size < g
  a1 : db ∉ rfFoot hb gb ib u
  a2 : ∀ g, uc.ownBlock = some g → g ≠ db ∧ g ∉ rfFoot hb gb ib u ∧ uv.ownBlock ≠ some g ∧ g ∉ R.map Prod.fst
  a3 : ∀ g, uv.ownBlock = some g → g ≠ db ∧ g ∉ rfFoot hb gb ib u ∧ g ∉ R.map Prod.fst
  a4 : ∀ g ∈ R.map Prod.fst, g ≠ db ∧ g ∉ rfFoot hb gb ib u
  a5 : (R.map Prod.fst).Nodup
  below : Below w0.heap.size w0 w
section
variable {w0 w w' w1 : World} {db hb gb ib m : Nat} {u uc uv : Value} {R : List (Nat × Nat)} {x : Sh}
theorem row_mem {R : List (Nat × Nat)} {g : Nat} (hg : g ∈ R.map Prod.fst) : ∃ (i n : Nat), R[i]? = some (g, n) := by
  obtain ⟨i, hi, e⟩ := List.getElem_of_mem hg
  simp only [List.getElem_map] at e
  have hiR : i < R.length := by simpa using hi
  exact ⟨i, R[i].2, by rw [List.getElem?_eq_getElem hiR, ← e]⟩
theorem BC.foot_lt (h : BC w0 w db hb gb ib u uc uv R x m) : ∀ g ∈ dcFoot db hb gb ib u uc uv R, g < w.heap.size := by
  intro g hg
  rcases mem_dcFoot.1 hg with rfl | hg | hg | hg | hg
  · exact h.head.lt
  · exact h.cts.lt hg
  · exact (World.ownsRow.lt h.rows g hg).2
  · exact h.rf.foot_lt g hg
  · obtain ⟨i, n, h1⟩ := row_mem hg
    exact (h.row i g n h1).2.lt
theorem BC.more (h : BC w0 w db hb gb ib u uc uv R x m) (hb' : Below w.heap.size w w') : BC w0 w' db hb gb ib u uc uv R x m := by
  have ho := Only.of_below (S := []) hb'
  exact ⟨h.head.only ho (by simp), h.rf.only ho (by simp), h.cts.only ho (by simp), owns_only h.rows ho (by simp), fun i g n h1 => ⟨(h.row i g n h1).1, (h.row i g n h1).2.only ho (by simp)⟩, h.sh.only ho (by simp), h.lo, h.a1, h.a2, h.a3, h.a4, h.a5, below_more h.below hb'⟩
theorem BC.drew (h : BC w0 w db hb gb ib u uc uv R x m) : BC w0 w.drew db hb gb ib u uc uv R x m := ⟨h.head, h.rf.drew, h.cts, h.rows, h.row, h.sh, h.lo, h.a1, h.a2, h.a3, h.a4, h.a5, h.below.drew⟩
end
end Go.Proofs.YtgbbaeojemihjaaGreatDoor

namespace Go.Proofs.YtgbbaeojemihjaaGreatDoor
open Go.RowKit
attribute [local go_sem ↓] Go.wp_at_zero Go.wp_at_succ

end Go.Proofs.YtgbbaeojemihjaaGreatDoor

namespace Go.Proofs.YtgbbaeojemihjaaGreatDoor
open Go.RowKit

/-- The program's cells, whatever they lie in: F are their blocks. -/
def CE (kb ab : Nat) (x : Sh) (bs : Nat) (L0 : List Int) (cs : List St) (p : Nat → List Int) (ct : List Int) (vs : List (List Vl)) (w : World) (F : List Nat) : Prop :=
  ∃ fb cb v ac L t, CeIn w kb fb cb v ab ac x bs cs p L t ∧ RepTo x.n x bs L0 cs ct vs L ∧ Inv x cs p ∧ F = ceFoot kb fb cb v ab ac
/-- The document's. -/
def DE (db hb : Nat) (x : Sh) (cs : List St) (p : Nat → List Int) (ct : List Int) (vs : List (List Vl)) (w : World) (F : List Nat) : Prop :=
  ∃ gb ib u uc uv R pl, DcIn w db hb gb ib u uc uv R x cs pl ct vs ∧ Sim x cs p pl ∧ F = dcFoot db hb gb ib u uc uv R
structure Frm (D : World → List Nat → Prop) : Prop where
  only : ∀ {w w' : World} {F S : List Nat}, D w F → Only S w w' → 0 ∉ S → (∀ g ∈ F, g ∉ S) → D w' F
  lt : ∀ {w : World} {F : List Nat}, D w F → ∀ g ∈ F, g < w.heap.size
theorem frm_ce (kb ab : Nat) (x : Sh) (bs : Nat) (L0 : List Int) (cs : List St) (p : Nat → List Int) (ct : List Int) (vs : List (List Vl)) : Frm (CE kb ab x bs L0 cs p ct vs) := by
  refine ⟨fun h ho h0 hS => ?_, fun h => ?_⟩
  · obtain ⟨fb, cb, v, ac, L, t, hC, hR, hI, rfl⟩ := h
    exact ⟨fb, cb, v, ac, L, t, hC.only ho h0 hS, hR, hI, rfl⟩
  · obtain ⟨fb, cb, v, ac, L, t, hC, hR, hI, rfl⟩ := h
    exact hC.foot_lt
theorem frm_de (db hb : Nat) (x : Sh) (cs : List St) (p : Nat → List Int) (ct : List Int) (vs : List (List Vl)) : Frm (DE db hb x cs p ct vs) := by
  refine ⟨fun h ho _ hS => ?_, fun h => ?_⟩
  · obtain ⟨gb, ib, u, uc, uv, R, pl, hD, hs, rfl⟩ := h
    exact ⟨gb, ib, u, uc, uv, R, pl, hD.only ho hS, hs, rfl⟩
  · obtain ⟨gb, ib, u, uc, uv, R, pl, hD, hs, rfl⟩ := h
    exact hD.foot_lt
/-- A block that is kept. -/
structure Kb where
  b : Nat
  t : TypeId
  cs : List Value
structure GS (w0 : World) (K : List Kb) (C D : World → List Nat → Prop) (F G : List Nat) (w : World) : Prop where
  c : C w F
  d : D w G
  cl : ∀ g ∈ F, w0.heap.size ≤ g
  dl : ∀ g ∈ G, w0.heap.size ≤ g
  cd : ∀ g ∈ F, g ∉ G
  kp : ∀ k ∈ K, Blk w k.b k.t k.cs ∧ k.b ∉ F ∧ k.b ∉ G
  pos : 0 < w0.heap.size
  below : Below w0.heap.size w0 w
def PS (w0 : World) (K : List Kb) (C D : World → List Nat → Prop) (w : World) : Prop := ∃ F G, GS w0 K C D F G w
section
variable {w0 w w' : World} {K : List Kb} {C C' D D' : World → List Nat → Prop}
theorem PS.below (h : PS w0 K C D w) : Below w0.heap.size w0 w := by obtain ⟨_, _, h⟩ := h; exact h.below
theorem PS.more (hC : Frm C) (hD : Frm D) (h : PS w0 K C D w) (hb : Below w.heap.size w w') : PS w0 K C D w' := by
  obtain ⟨F, G, h⟩ := h
  have ho := Only.of_below (S := []) hb
  exact ⟨F, G, hC.only h.c ho (by simp) (by simp), hD.only h.d ho (by simp) (by simp), h.cl, h.dl, h.cd, fun k hk => ⟨(h.kp k hk).1.only ho (by simp), (h.kp k hk).2⟩, h.pos, below_more h.below hb⟩
theorem PS.drew (hC : Frm C) (hD : Frm D) (h : PS w0 K C D w) : PS w0 K C D w.drew := h.more hC hD (Below.drew (Below.refl _ _))
/-- One more block is kept. -/
theorem PS.add (hC : Frm C) (hD : Frm D) (h : PS w0 K C D w) (a : Array Value) (t : TypeId) : PS w0 (⟨w.heap.size, t, a.toList⟩ :: K) C D (w.alloc (.cells a t)) := by
  obtain ⟨F, G, h⟩ := h
  have hf := hC.lt h.c
  have hg := hD.lt h.d
  have hb : Below w.heap.size w (w.alloc (.cells a t)) := (Below.refl _ _).alloc (Nat.le_refl _) _
  obtain ⟨F', G', h'⟩ := PS.more hC hD ⟨F, G, h⟩ hb
  have ho := Only.of_below (S := []) hb
  refine ⟨F, G, hC.only h.c ho (by simp) (by simp), hD.only h.d ho (by simp) (by simp), h.cl, h.dl, h.cd, fun k hk => ?_, h.pos, below_more h.below hb⟩
  rcases List.mem_cons.1 hk with rfl | hk
  · exact ⟨Blk.new w a t, fun hm => by have := hf _ hm; exact absurd this (Nat.lt_irrefl _), fun hm => by have := hg _ hm; exact absurd this (Nat.lt_irrefl _)⟩
  · exact ⟨(h.kp k hk).1.only ho (by simp), (h.kp k hk).2⟩
theorem PS.drop (h : PS w0 K C D w) {K' : List Kb} (hK : ∀ k ∈ K', k ∈ K) : PS w0 K' C D w := by
  obtain ⟨F, G, h⟩ := h
  exact ⟨F, G, h.c, h.d, h.cl, h.dl, h.cd, fun k hk => h.kp k (hK k hk), h.pos, h.below⟩
theorem PS.cell (h : PS w0 K C D w) {k : Kb} (hk : k ∈ K) {i : Nat} {v : Value} (hv : k.cs[i]? = some v) : w.cell? ⟨k.b, i, none⟩ = some v := by
  obtain ⟨F, G, h⟩ := h
  exact (h.kp k hk).1.cell hv
end

section
variable {w0 w : World} {K : List Kb} {D : World → List Nat → Prop} {kb ab bs : Nat} {x : Sh} {L0 : List Int} {cs : List St} {p : Nat → List Int} {ct : List Int} {vs : List (List Vl)}
theorem PS.lay (h : PS w0 K (CE kb ab x bs L0 cs p ct vs) D w) : Lay w := by
  obtain ⟨F, G, h⟩ := h
  obtain ⟨fb, cb, v, ac, L, t, hC, _⟩ := h.c
  exact hC.lay
theorem PS.lens (h : PS w0 K (CE kb ab x bs L0 cs p ct vs) D w) : cs.length = x.n ∧ ct.length = x.n ∧ vs.length = x.n ∧ x.may = true ∧ Inv x cs p := by
  obtain ⟨F, G, h⟩ := h
  obtain ⟨fb, cb, v, ac, L, t, hC, hR, hI, _⟩ := h.c
  exact ⟨hR.len.1, hR.len.2.1, hR.len.2.2, hR.may, hI⟩
variable (hD : Frm D) (h : PS w0 K (CE kb ab x bs L0 cs p ct vs) D w)
include hD h
end
section
variable {w0 w : World} {K : List Kb} {C : World → List Nat → Prop} {db hb : Nat} {x : Sh} {cs : List St} {p : Nat → List Int} {ct : List Int} {vs : List (List Vl)}
variable (hC : Frm C) (h : PS w0 K C (DE db hb x cs p ct vs) w)
include h
include hC
end
end Go.Proofs.YtgbbaeojemihjaaGreatDoor
