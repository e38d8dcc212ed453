/- The document's cells in memory; its Slots, Alloc, Live. The document's cells: Header, Get. The document's cells: Get. The document's cells: SetCount, Set. The document's cells: Set. -/
import Derived.Test.YtgbbaeojemihjaaGreatDoorLayCellC
import Derived.StillTailTactics
namespace Go.Proofs.YtgbbaeojemihjaaGreatDoor
open Go.RowKit
attribute [local go_sem ↓] Go.wp_at_zero Go.wp_at_succ

/-- A row's slice: its block, and how many values it has. -/
def RV (r : Nat × Nat) : Value := .slice (some ⟨r.1, 0, none⟩) r.2 r.2
def OwnR (w : World) (v : Value) (R : List (Nat × Nat)) : Prop := w.ownsRow 0 139 1 v R.length (R.map RV)
section
variable {w w' : World} {v : Value} {R : List (Nat × Nat)} {L : List Int}
theorem owns_only {S : List Nat} {e : TypeId} {n : Nat} {xs : List Value} (h : w.ownsRow 0 e 1 v n xs) (ho : Only S w w') (hS : ∀ g, v.ownBlock = some g → g ∉ S) : w'.ownsRow 0 e 1 v n xs := by
  refine ⟨h.1, ?_⟩
  rcases h.2 with hn | ⟨g, cap, cur, rfl, hb, hgg, rest⟩
  · exact .inl hn
  · refine .inr ⟨g, cap, cur, rfl, hb, ?_, rest⟩
    rw [ho.block g (Array.getElem?_eq_some_iff.1 hgg).1 (hS g rfl)]
    exact hgg
end

def dcFoot (db hb gb ib : Nat) (u uc uv : Value) (R : List (Nat × Nat)) : List Nat := db :: (uc.ownBlock.toList ++ uv.ownBlock.toList ++ rfFoot hb gb ib u ++ R.map Prod.fst)
theorem mem_dcFoot {db hb gb ib g : Nat} {u uc uv : Value} {R : List (Nat × Nat)} : g ∈ dcFoot db hb gb ib u uc uv R ↔ g = db ∨ uc.ownBlock = some g ∨ uv.ownBlock = some g ∨ g ∈ rfFoot hb gb ib u ∨ g ∈ R.map Prod.fst := by
  simp [dcFoot]
/-- The document's cells lie in block db. -/
structure DcIn (w : World) (db hb gb ib : Nat) (u uc uv : Value) (R : List (Nat × Nat)) (x : Sh) (cs : List St) (pl : List Int) (ct : List Int) (vs : List (List Vl)) : Prop where
  head : Blk w db 105 [.pointer (some ⟨hb, 0, none⟩), uc, uv]
  rf : RfIn w hb gb ib u x (cs.map St.g) (cs.map St.s) pl
  cts : Own w uc ct
  rows : OwnR w uv R
  row : ∀ (i g n : Nat) (l : List Vl), R[i]? = some (g, n) → vs[i]? = some l → n = l.length ∧ Blk w g 41 (l.flatMap Vl.cells)
  lens : cs.length = x.n ∧ ct.length = x.n ∧ vs.length = x.n ∧ R.length = x.n
  slots : ∀ (i : Nat) (l : List Vl), vs[i]? = some l → l.length = x.sl i
  may : x.may = true
  a1 : db ∉ rfFoot hb gb ib u
  a2 : ∀ g, uc.ownBlock = some g → g ≠ db ∧ g ∉ rfFoot hb gb ib u ∧ uv.ownBlock ≠ some g ∧ g ∉ R.map Prod.fst
  a3 : ∀ g, uv.ownBlock = some g → g ≠ db ∧ g ∉ rfFoot hb gb ib u ∧ g ∉ R.map Prod.fst
  a4 : ∀ g ∈ R.map Prod.fst, g ≠ db ∧ g ∉ rfFoot hb gb ib u
  a5 : (R.map Prod.fst).Nodup
section
variable {w w' : World} {db hb gb ib : Nat} {u uc uv : Value} {R : List (Nat × Nat)} {x : Sh} {cs : List St} {pl ct : List Int} {vs : List (List Vl)}
theorem DcIn.rowB (h : DcIn w db hb gb ib u uc uv R x cs pl ct vs) {g : Nat} (hg : g ∈ R.map Prod.fst) : ∃ (i n : Nat) (l : List Vl), R[i]? = some (g, n) ∧ vs[i]? = some l := by
  obtain ⟨i, hi, e⟩ := List.getElem_of_mem hg
  simp only [List.getElem_map] at e
  have hiR : i < R.length := by simpa using hi
  obtain ⟨_, _, h3, h4⟩ := h.lens
  exact ⟨i, R[i].2, vs[i]'(by omega), by rw [List.getElem?_eq_getElem hiR, ← e], List.getElem?_eq_getElem (by omega)⟩
theorem DcIn.foot_lt (h : DcIn w db hb gb ib u uc uv R x cs pl ct vs) : ∀ g ∈ dcFoot db hb gb ib u uc uv R, g < w.heap.size := by
  intro g hg
  rcases mem_dcFoot.1 hg with rfl | hg | hg | hg | hg
  · exact h.head.lt
  · exact h.cts.lt hg
  · exact (World.ownsRow.lt h.rows g hg).2
  · exact h.rf.foot_lt g hg
  · obtain ⟨i, n, l, h1, h2⟩ := h.rowB hg
    exact (h.row i g n l h1 h2).2.lt
theorem DcIn.only {S : List Nat} (h : DcIn w db hb gb ib u uc uv R x cs pl ct vs) (ho : Only S w w') (hS : ∀ g ∈ dcFoot db hb gb ib u uc uv R, g ∉ S) : DcIn w' db hb gb ib u uc uv R x cs pl ct vs := by
  refine ⟨h.head.only ho (hS _ (mem_dcFoot.2 (by simp))), h.rf.only ho (fun g hg => hS g (mem_dcFoot.2 (by simp [hg]))), h.cts.only ho (fun g hg => hS g (mem_dcFoot.2 (by simp [hg]))), owns_only h.rows ho (fun g hg => hS g (mem_dcFoot.2 (by simp [hg]))), fun i g n l h1 h2 => ?_, h.lens, h.slots, h.may, h.a1, h.a2, h.a3, h.a4, h.a5⟩
  obtain ⟨e, hB⟩ := h.row i g n l h1 h2
  exact ⟨e, hB.only ho (hS g (mem_dcFoot.2 (Or.inr (Or.inr (Or.inr (Or.inr (List.mem_map.2 ⟨(g, n), List.mem_of_getElem? h1, rfl⟩)))))))⟩
theorem DcIn.more (h : DcIn w db hb gb ib u uc uv R x cs pl ct vs) (hb' : Below w.heap.size w w') : DcIn w' db hb gb ib u uc uv R x cs pl ct vs := h.only (Only.of_below (S := []) hb') (by simp)
theorem DcIn.drew (h : DcIn w db hb gb ib u uc uv R x cs pl ct vs) : DcIn w.drew db hb gb ib u uc uv R x cs pl ct vs := ⟨h.head, h.rf.drew, h.cts, h.rows, h.row, h.lens, h.slots, h.may, h.a1, h.a2, h.a3, h.a4, h.a5⟩
theorem DcIn.cells (h : DcIn w db hb gb ib u uc uv R x cs pl ct vs) : w.cell? ⟨db, 0, none⟩ = some (.pointer (some ⟨hb, 0, none⟩)) ∧ w.cell? ⟨db, 1, none⟩ = some uc ∧ w.cell? ⟨db, 2, none⟩ = some uv := ⟨h.head.cell rfl, h.head.cell rfl, h.head.cell rfl⟩
theorem DcIn.small (h : DcIn w db hb gb ib u uc uv R x cs pl ct vs) : x.n ≤ 192 := (x.count h.may).2
theorem DcIn.list (h : DcIn w db hb gb ib u uc uv R x cs pl ct vs) {u' : Value} {cs' : List St} {pl' : List Int} (hR : RfIn w' hb gb ib u' x (cs'.map St.g) (cs'.map St.s) pl') (ho : Only (rfFoot hb gb ib u) w w') (hat : ∀ g ∈ rfFoot hb gb ib u', g ∈ rfFoot hb gb ib u ∨ w.heap.size ≤ g) (hl : cs'.length = cs.length) :
    DcIn w' db hb gb ib u' uc uv R x cs' pl' ct vs := by
  have hlt := h.foot_lt
  have new : ∀ g, g < w.heap.size → g ∉ rfFoot hb gb ib u → g ∉ rfFoot hb gb ib u' := fun g hg hn hm => (hat g hm).elim hn (fun e => by omega)
  refine ⟨h.head.only ho h.a1, hR, h.cts.only ho (fun g hg => (h.a2 g hg).2.1), owns_only h.rows ho (fun g hg => (h.a3 g hg).2.1), fun i g n l h1 h2 => ?_, ⟨hl.trans h.lens.1, h.lens.2⟩, h.slots, h.may, new _ (hlt _ (mem_dcFoot.2 (by simp))) h.a1, fun g hg => ?_, fun g hg => ?_, fun g hg => ?_, h.a5⟩
  · obtain ⟨e, hB⟩ := h.row i g n l h1 h2
    exact ⟨e, hB.only ho (h.a4 g (List.mem_map.2 ⟨(g, n), List.mem_of_getElem? h1, rfl⟩)).2⟩
  · obtain ⟨q1, q2, q3, q4⟩ := h.a2 g hg
    exact ⟨q1, new g (hlt g (mem_dcFoot.2 (by simp [hg]))) q2, q3, q4⟩
  · obtain ⟨q1, q2, q3⟩ := h.a3 g hg
    exact ⟨q1, new g (hlt g (mem_dcFoot.2 (by simp [hg]))) q2, q3⟩
  · obtain ⟨q1, q2⟩ := h.a4 g hg
    exact ⟨q1, new g (hlt g (mem_dcFoot.2 (Or.inr (Or.inr (Or.inr (Or.inr hg)))))) q2⟩
end
end Go.Proofs.YtgbbaeojemihjaaGreatDoor

namespace Go.Proofs.YtgbbaeojemihjaaGreatDoor
open Go.RowKit
attribute [local go_sem ↓] Go.wp_at_zero Go.wp_at_succ

section
variable {w w' : World} {db hb gb ib : Nat} {u uc uv : Value} {R : List (Nat × Nat)} {x : Sh} {cs : List St} {pl ct : List Int} {vs : List (List Vl)}
theorem DcIn.res (h : DcIn w db hb gb ib u uc uv R x cs pl ct vs) {w1 w2 : World} (h1 : DcIn w1 db hb gb ib u uc uv R x cs pl ct vs) (h2 : Only [w.heap.size] w1 w2) : DcIn w2 db hb gb ib u uc uv R x cs pl ct vs := by
  have hlt := h.foot_lt
  exact h1.only h2 (fun g hg => by have := hlt g hg; simp; omega)
end
end Go.Proofs.YtgbbaeojemihjaaGreatDoor

namespace Go.Proofs.YtgbbaeojemihjaaGreatDoor
open Go.RowKit
attribute [local go_sem ↓] Go.wp_at_zero Go.wp_at_succ

section
variable {w w' : World} {db hb gb ib : Nat} {u uc uv : Value} {R : List (Nat × Nat)} {x : Sh} {cs : List St} {pl ct : List Int} {vs : List (List Vl)}
end
end Go.Proofs.YtgbbaeojemihjaaGreatDoor

namespace Go.Proofs.YtgbbaeojemihjaaGreatDoor
open Go.RowKit
attribute [local go_sem ↓] Go.wp_at_zero Go.wp_at_succ

section
variable {w w' : World} {db hb gb ib : Nat} {u uc uv : Value} {R : List (Nat × Nat)} {x : Sh} {cs : List St} {pl ct : List Int} {vs : List (List Vl)}
end
end Go.Proofs.YtgbbaeojemihjaaGreatDoor

namespace Go.Proofs.YtgbbaeojemihjaaGreatDoor
open Go.RowKit
attribute [local go_sem ↓] Go.wp_at_zero Go.wp_at_succ

theorem Step.trans {F F' F'' : List Nat} {w w' w'' : World} (h : Step F w F' w') (h' : Step F' w' F'' w'') : Step F w F'' w'' :=
  ⟨h.1.trans h'.1 h.2, fun g hg => (h'.2 g hg).elim (h.2 g) (fun e => Or.inr (Nat.le_trans h.1.size e))⟩
section
variable {w w' : World} {db hb gb ib : Nat} {u uc uv : Value} {R : List (Nat × Nat)} {x : Sh} {cs : List St} {pl ct : List Int} {vs : List (List Vl)}
end
end Go.Proofs.YtgbbaeojemihjaaGreatDoor
