/- New. -/
import Derived.Test.YtplneoapcadlnaaDoorFreeE
import Derived.Deep.RegionHeld3
import Derived.Deep.DrawnRows
namespace Go.Proofs.YtplneoapcadlnaaDoor
open Go.RowKit
attribute [local go_sem ↓] Go.wp_at_zero Go.wp_at_succ

def Sh.n (x : Sh) : Nat := (x.a + x.b + x.c).toNat
def Sh.cz (x : Sh) (y : Int) : Int := classZ x.a x.b x.c x.q x.s y
def Sh.vals (x : Sh) : List Value := [.int .i64 x.a, .int .i64 x.b, .int .i64 x.c, .int .i64 x.q, .int .i64 x.s]
theorem Sh.count (x : Sh) (h : x.may = true) : countZ x.a x.b x.c x.q x.s = (x.n : Int) ∧ x.n ≤ 192 := by
  have h' : mayB x.a x.b x.c x.q x.s = true := h
  obtain ⟨ha, hb, hc, _, _⟩ := mayB_iff.1 h'
  unfold countZ Sh.n
  rw [if_pos h']
  omega
theorem right_one (x : Sh) : rightB [x] = x.may := by simp [rightB, inB]
def nilV : Nat → Value := fun _ => .slice none 0 0
def nilP : Nat → List Int := fun _ => []
/-- What New has while it makes a list. -/
structure NW (w0 w : World) (hb cb : Nat) (v : Nat → Value) (x : Sh) (cs : List St) (p : Nat → List Int) : Prop where
  fr : FrIn w hb cb v cs p
  sh : Blk w w0.heap.size 24 x.vals
  lo : ∀ g ∈ frFoot hb cb v, w0.heap.size < g
  lay : Lay w
  lay0 : Lay w0
  below : Below w0.heap.size w0 w
section
variable {w0 w w' : World} {hb cb : Nat} {v : Nat → Value} {x : Sh} {cs : List St} {p : Nat → List Int}
theorem Lay.drew (h : Lay w) : Lay w.drew := h
theorem NW.more (h : NW w0 w hb cb v x cs p) (hb' : Below w.heap.size w w') : NW w0 w' hb cb v x cs p :=
  ⟨h.fr.more hb', h.sh.below hb' h.sh.lt, h.lo, h.lay.below hb', h.lay0, below_more h.below hb'⟩
theorem NW.drew (h : NW w0 w hb cb v x cs p) : NW w0 w.drew hb cb v x cs p := ⟨h.fr.drew, h.sh, h.lo, h.lay, h.lay0, h.below.drew⟩
theorem NW.cells (h : NW w0 w hb cb v x cs p) : w.cell? ⟨hb, 0, none⟩ = some (.slice (some ⟨cb, 0, none⟩) cs.length cs.length) ∧ w.cell? ⟨w0.heap.size, 0, none⟩ = some (.int .i64 x.a) ∧ w.cell? ⟨w0.heap.size, 1, none⟩ = some (.int .i64 x.b) ∧ w.cell? ⟨w0.heap.size, 2, none⟩ = some (.int .i64 x.c) ∧ w.cell? ⟨w0.heap.size, 3, none⟩ = some (.int .i64 x.q) ∧ w.cell? ⟨w0.heap.size, 4, none⟩ = some (.int .i64 x.s) :=
  ⟨h.fr.c0, h.sh.cell rfl, h.sh.cell rfl, h.sh.cell rfl, h.sh.cell rfl, h.sh.cell rfl⟩
end

set_option maxRecDepth 100000 in
set_option maxHeartbeats 400000 in
theorem newL_no (x : Sh) (w : World) (hm : x.may = false) :
    Calls Tryd.prog 31 #[.agg #[.int .i64 x.a, .int .i64 x.b, .int .i64 x.c, .int .i64 x.q, .int .i64 x.s]] w fun e w' => e = .returned (.tuple #[.pointer none, .int .i64 1]) ∧ Below w.heap.size w w' := by
  have hr := right_one x
  rw [hm] at hr
  go_enter Tryd.func31, Tryd.ntmps31
  go_wp2_with (go_at_call 69; refine (right_any _ _ [x] _ ?hR (by simp)).mono ?_)
  case hR =>
    intro k y hy
    match k, hy with
    | 0, hy =>
      simp at hy
      subst hy
      refine ⟨_, _, rfl, by simp, ?_⟩
      refine ⟨?_, ?_, ?_, ?_, ?_⟩ <;> (rw [World.cell?_alloc_at _ _ _ _ (by simp)]; rfl)
  rintro e w1 ⟨rfl, hb1⟩
  go_wp2_with fail
  go_ret2
  exact ⟨rfl, below_more (((Below.refl _ _).alloc (Nat.le_refl _) _).alloc (by simp) _) hb1⟩
end Go.Proofs.YtplneoapcadlnaaDoor
