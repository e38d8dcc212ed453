/- The program's map of nodes: outs, nodes; Right. What is still to be looked at: what holds of the nodes that are left, and of the pile; a pile of slices in memory. The program's unreached: a labelled loop over a pile. The program's Reach, Dead. The program's Counts. Fits; alive. GraphTells, as a call. Closed, in plain words. -/
import Derived.Test.YtiehcidmajdocaaGreatDoorLapGra
import Derived.Laws.OwnMore
import Derived.WalkSmall
import Derived.Test.YtiehcidmajdocaaGreatDoorIter
import Derived.Deep.RegionHeld3
namespace Go.Proofs.YtiehcidmajdocaaGreatDoor
namespace Gr
open Go.RowKit Go.Maps
theorem Tryz.lawIntG:Keyed Tryz.prog 3:=int_keyed Tryz.underlying3
theorem map_only {H:Type}{P:Program}{k:TypeId}{R:Value→Option (DataW H × List MemPlace)}{w w':World}{b n:Nat}{D:DataW H}{S:List Nat}(h:w.ownsMap P k R b n D)(ho:Only S w w')(hb:b ∉ S):w'.ownsMap P k R b n D:=by
 have hl:=h.lt
 obtain⟨es,clock,he,r⟩:=h
 exact⟨es,clock,(ho.block b hl hb).trans he,r⟩
theorem map_isMap {H:Type}{P:Program}{k:TypeId}{R:Value→Option (DataW H × List MemPlace)}{w:World}{b n:Nat}{D:DataW H}(h:w.ownsMap P k R b n D):IsMap D:=by
 obtain⟨es,clock,_,_,_,rfl⟩:=h
 exact⟨_,rfl⟩
theorem ky_ne {a b:Int}(h:a≠b):Rt.ky a≠Rt.ky b:=fun e=>h (by simpa [Rt.ky] using e)
theorem ky_key (a:Int):WideAt.IsKeyLit (Rt.ky a):=by unfold Rt.ky;simp [WideAt.IsKeyLit]
end Gr
end Go.Proofs.YtiehcidmajdocaaGreatDoor

namespace Go.Proofs.YtiehcidmajdocaaGreatDoor
namespace Gr
open Go.RowKit Go.Maps
end Gr
end Go.Proofs.YtiehcidmajdocaaGreatDoor

namespace Go.Proofs.YtiehcidmajdocaaGreatDoor
namespace Gr
open Go.RowKit Go.Maps
end Gr
end Go.Proofs.YtiehcidmajdocaaGreatDoor

namespace Go.Proofs.YtiehcidmajdocaaGreatDoor
namespace Gr
open Go.RowKit Go.Maps
theorem reach_filter {G:Gp}(hr:Ri G)(fr:List Int):(ids G).filter (fun z=>Rt.hasB (reachL G fr) z)=reachL G fr:=by
 refine inc_ext (hr.inc.filter _) (reach_inc hr fr) (fun z=>?_)
 rw [List.mem_filter,Rt.hasB_iff]
 exact⟨fun h=>h.2,fun h=>⟨reach_ids h,h⟩⟩
end Gr
end Go.Proofs.YtiehcidmajdocaaGreatDoor

namespace Go.Proofs.YtiehcidmajdocaaGreatDoor
namespace Gr
open Go.RowKit Go.Maps
end Gr
end Go.Proofs.YtiehcidmajdocaaGreatDoor

namespace Go.Proofs.YtiehcidmajdocaaGreatDoor
namespace Gr
open Go.RowKit Go.Maps
end Gr
end Go.Proofs.YtiehcidmajdocaaGreatDoor

namespace Go.Proofs.YtiehcidmajdocaaGreatDoor
namespace Gr
open Go.RowKit Go.Maps
end Gr
end Go.Proofs.YtiehcidmajdocaaGreatDoor

namespace Go.Proofs.YtiehcidmajdocaaGreatDoor
namespace Gr
open Go.RowKit Go.Maps
end Gr
end Go.Proofs.YtiehcidmajdocaaGreatDoor
