/- HeapCovered. -/
import Derived.Test.YtgbbaeojemihjaaGreatDoorLayHlw
import Derived.Test.YtgbbaeojemihjaaGreatDoorLayHepP
import Derived.Test.YtgbbaeojemihjaaGreatDoorLayFreeC
import Derived.Laws.AppendOwnNone
namespace Go.Proofs.YtgbbaeojemihjaaGreatDoor
namespace Hp
open Go.RowKit
attribute [local go_sem ↓] Go.wp_at_zero Go.wp_at_succ

section
variable {F0 : List Nat} {w0 w : World} {ts : List Part} {I : Ids} {x : Sh} {L0 : List Int} {s : Hs}
theorem mem_firsts {m : List Int} {z : Int} (h : z ∈ m) : z ∈ Qu.firsts m := Qu.mem_firsts.2 h
theorem Cov.init (x : Sh) : Cov (Hs.init x) := by
  intro z hz
  obtain ⟨i, y, rfl, hy, ht⟩ := taken_in hz
  have hy' : (c0 x)[i]? = some y := hy
  have hi : i < x.n := by have := (List.getElem?_eq_some_iff.1 hy').1; rw [c0_len] at this; exact this
  rw [c0_at x hi] at hy'
  rw [← Option.some.inj hy'] at ht
  cases ht
theorem Cov.do_ (h : Ok x s) (hC : Cov s) (a : Hact) (hk : ¬ 6 < a.k % 9) : Cov (doS x s a) := by
  have a7 : (a.k % 9 == 7) = false := by simp; omega
  have a8 : (a.k % 9 == 8) = false := by simp; omega
  unfold doS
  rw [a7, a8]
  split
  · exact hC.ho _
  split
  · exact hC.dr _
  split
  · exact hC.pu h _ _ _
  split
  · exact Cov.dn _ h hC
  split
  · rename_i e; cases e
  · exact hC.al h _
end
section
variable (x : Sh) (A : Option Addr) (cap m : Nat) (w : World)
end
end Hp
end Go.Proofs.YtgbbaeojemihjaaGreatDoor
