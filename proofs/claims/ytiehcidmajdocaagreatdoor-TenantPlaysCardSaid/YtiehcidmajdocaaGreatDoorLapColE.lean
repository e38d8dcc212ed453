/- Plain: so many units: what holds behind them, what is reached, how many died. Plain: all the dead: how many units it takes. -/
import Derived.Test.YtiehcidmajdocaaGreatDoorLapCol
namespace Go.Proofs.YtiehcidmajdocaaGreatDoor
namespace Hp
open Go.RowKit
end Hp
end Go.Proofs.YtiehcidmajdocaaGreatDoor

namespace Go.Proofs.YtiehcidmajdocaaGreatDoor
namespace Hp
open Go.RowKit
section
variable {x:Sh}{c:Cs}{s t:Hs}
theorem outs_le (h:Ok x s){z:Int}(hz:takenZ s.cs z=true):(s.outs z).length≤4:=by
 obtain⟨i,y,rfl,hi,_⟩:=h.live_lt hz
 obtain⟨l,hv,hl,_,ho⟩:=h.row hi
 have:=(Sh.sl_is h.may i).2.1
 rw [ho]
 unfold ptrs
 rw [List.length_map]
 have:=List.length_filter_le (fun y:Vl=>y.k == 2) l
 omega
end
end Hp
end Go.Proofs.YtiehcidmajdocaaGreatDoor
