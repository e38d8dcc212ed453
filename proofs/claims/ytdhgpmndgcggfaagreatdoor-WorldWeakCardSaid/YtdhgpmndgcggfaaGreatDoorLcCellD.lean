/- The document's cells in memory; its Slots, Alloc, Live. The document's cells: Header, Get. The document's cells: Get. The document's cells: SetCount, Set. The document's cells: Set. The document's cells: Free. The document's cells: what Begin has while it makes them. The document's cells: Begin. One state for a law's world: the program's cells, the document's beside them, and blocks that are kept. -/
import Derived.Test.YtdhgpmndgcggfaaGreatDoorLcCellB
import Derived.StillTailTactics
import Derived.Deep.AppendLies
import Derived.Deep.RegionLaw
import Derived.Test.YtdhgpmndgcggfaaGreatDoorLcBase
namespace Go.Proofs.YtdhgpmndgcggfaaGreatDoor
open Go.RowKit
attribute [local go_sem ↓] Go.wp_at_zero Go.wp_at_succ
end Go.Proofs.YtdhgpmndgcggfaaGreatDoor
namespace Go.Proofs.YtdhgpmndgcggfaaGreatDoor
open Go.RowKit
attribute [local go_sem ↓] Go.wp_at_zero Go.wp_at_succ
end Go.Proofs.YtdhgpmndgcggfaaGreatDoor
namespace Go.Proofs.YtdhgpmndgcggfaaGreatDoor
open Go.RowKit
attribute [local go_sem ↓] Go.wp_at_zero Go.wp_at_succ
end Go.Proofs.YtdhgpmndgcggfaaGreatDoor
namespace Go.Proofs.YtdhgpmndgcggfaaGreatDoor
open Go.RowKit
attribute [local go_sem ↓] Go.wp_at_zero Go.wp_at_succ
end Go.Proofs.YtdhgpmndgcggfaaGreatDoor
namespace Go.Proofs.YtdhgpmndgcggfaaGreatDoor
open Go.RowKit
attribute [local go_sem ↓] Go.wp_at_zero Go.wp_at_succ
end Go.Proofs.YtdhgpmndgcggfaaGreatDoor
namespace Go.Proofs.YtdhgpmndgcggfaaGreatDoor
open Go.RowKit
attribute [local go_sem ↓] Go.wp_at_zero Go.wp_at_succ
end Go.Proofs.YtdhgpmndgcggfaaGreatDoor
namespace Go.Proofs.YtdhgpmndgcggfaaGreatDoor
open Go.RowKit
end Go.Proofs.YtdhgpmndgcggfaaGreatDoor
namespace Go.Proofs.YtdhgpmndgcggfaaGreatDoor
open Go.RowKit
attribute [local go_sem ↓] Go.wp_at_zero Go.wp_at_succ
end Go.Proofs.YtdhgpmndgcggfaaGreatDoor
namespace Go.Proofs.YtdhgpmndgcggfaaGreatDoor
open Go.RowKit
def CE (kb ab:Nat)(x:Sh)(bs:Nat)(L0:List Int)(cs:List St)(p:Nat→List Int)(ct:List Int)(vs:List (List Vl))(w:World)(F:List Nat):Prop :=
 ∃ fb cb v ac L t,CeIn w kb fb cb v ab ac x bs cs p L t∧RepTo x.n x bs L0 cs ct vs L∧Inv x cs p∧F=ceFoot kb fb cb v ab ac
structure Frm (D:World→List Nat→Prop):Prop where
 only:∀ {w w':World} {F S:List Nat},D w F→Only S w w'→0 ∉ S→(∀ g ∈ F,g ∉ S)→D w' F
 lt:∀ {w:World} {F:List Nat},D w F→∀ g ∈ F,g<w.heap.size
theorem frm_ce (kb ab:Nat)(x:Sh)(bs:Nat)(L0:List Int)(cs:List St)(p:Nat→List Int)(ct:List Int)(vs:List (List Vl)):Frm (CE kb ab x bs L0 cs p ct vs):=by
 refine⟨fun h ho h0 hS=>?_,fun h=>?_⟩
 ·obtain⟨fb,cb,v,ac,L,t,hC,hR,hI,rfl⟩:=h
  exact⟨fb,cb,v,ac,L,t,hC.only ho h0 hS,hR,hI,rfl⟩
 ·obtain⟨fb,cb,v,ac,L,t,hC,hR,hI,rfl⟩:=h
  exact hC.foot_lt
end Go.Proofs.YtdhgpmndgcggfaaGreatDoor
