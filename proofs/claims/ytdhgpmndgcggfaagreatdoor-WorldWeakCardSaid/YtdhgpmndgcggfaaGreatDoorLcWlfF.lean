/- The laws of worlds: how many changes there were in all heaps; rows beside a world. -/
import Derived.Test.YtdhgpmndgcggfaaGreatDoorLcWlfD
import Derived.Test.YtdhgpmndgcggfaaGreatDoorLcTenE
set_option maxRecDepth 100000
set_option maxHeartbeats 1600000
namespace Go.Proofs.YtdhgpmndgcggfaaGreatDoor
namespace Wl
open Hp Tn Px Go.RowKit
attribute [local go_sem ↓] Go.wp_at_zero Go.wp_at_succ
def chF:Int→List Wt→Int
 | a,[]=>a
 | a,τ::l=>chF (wrap64 (a+τ.s.ch)) l
def chW (W:Ws):Int:=chF 0 W.t
theorem tn_nat {W:Ws}{k:Nat}(h1:1≤k)(h2:k≤W.t.length):∃ τ,tn W k=some τ∧W.t.drop (k - 1)=τ::W.t.drop k:=by
 refine⟨W.t[k - 1]'(by omega),?_,?_⟩
 ·unfold tn
  rw [if_neg (by omega),show ((k:Int) - 1).toNat=k - 1 by omega]
  exact List.getElem?_eq_getElem (by omega)
 ·have:=List.drop_eq_getElem_cons (l:=W.t) (i:=k - 1) (by omega)
  rwa [show k - 1+1=k by omega] at this
section
variable {w0 w:World}{J:Wi}{W:Ws}{ts:List Part}{j n:Nat}{t:TypeId}{u:Value}{xs:List Value}
theorem changed_any (h:WH w0 J W ts w)(hok:Wok W)(hn:W.t.length≤16):Calls Tryz.prog 19 #[.pointer (some ⟨J.wb,0,none⟩)] w fun e w'=>e = .returned (.int .i64 (chW W))∧WH w0 J W ts w':=by
 have HW:=Lib.hid h
 have HOK:=Lib.hid hok
 have HC:=Lib.hid (fun (wr:World) (h:WH w0 J W ts wr)=>wh_tenants h)
 have hn':(W.t.length:Int)≤16:=by omega
 clear h hok
 go_enter Tryz.func19,Tryz.ntmps19
 go_wp2_with fail
 go_loopw [3,4] (fun s3 s4 wr=>∃ (k:Nat) (a:Int),1≤k∧k≤W.t.length+1∧s3 = .int .i64 a∧s4 = .int .i64 k∧Aside (chF a (W.t.drop (k - 1))=chW W)∧Aside (WH w0 J W ts wr)) (fun _ s4 _=>W.t.length+1 - (RowKit.intOf s4).toNat)
 case atStart=>exact⟨1,0,by omega,by omega,rfl,rfl,rfl,HW.out⟩
 case round =>
  obtain⟨k,a,hk1,hk2,rfl,rfl,hA,hS⟩:=hrel
  clear HW
  have HT:=Lib.hid (HC.out _ hS.out)
  by_cases hlt:k≤W.t.length
  ·have hlt':(k:Int)≤W.t.length:=by omega
   have hk16:(k:Int)≤16:=by omega
   obtain⟨τ,hτ,hd⟩:=tn_nat hk1 hlt
   have HH:=Lib.hid (wh_heap hS.out HOK.out hτ)
   have HG:=Lib.hid (wh_changes hS.out HOK.out hτ)
   have HS:=Lib.hid hS.out
   rw [hd] at hA
   have HA:=Lib.hid (show chF (wrap64 (a+τ.s.ch)) (W.t.drop k)=chW W from hA.out)
   obtain⟨z,hz⟩:∃ z,wrap64 (a+τ.s.ch)=z:=⟨_,rfl⟩
   rw [hz] at HA
   obtain⟨c,hc⟩:∃ c,τ.s.ch=c:=⟨_,rfl⟩
   rw [hc] at HG hz
   have HZ:=Lib.hid hz
   clear hS hA hτ hd hc hz
   go_wp2_with (first
    | (go_at_call 10;refine HT.out.mono ?_;rintro e w2 ⟨rfl,rfl⟩)
    | (go_at_call 16;refine HH.out.mono ?_;rintro e w2 ⟨rfl,rfl⟩)
    | (go_at_call 67;refine HG.out.mono ?_;rintro e w2 ⟨rfl,rfl⟩))
   go_roundw
   case rel=>exact⟨k+1,z,by omega,by omega,by rw [HZ.out],by go_num,by rw [Nat.add_sub_cancel];exact HA.out,HS.out⟩
   case measure=>simp [RowKit.intOf];omega
  ·have hlt':¬ (k:Int)≤W.t.length:=by omega
   have HS:=Lib.hid hS.out
   have HZ:a=chW W:=by
    have:=hA.out
    rw [List.drop_of_length_le (by omega)] at this
    exact this
   subst HZ
   clear hS hA
   go_wp2_with (go_at_call 10;refine HT.out.mono ?_;rintro e w2 ⟨rfl,rfl⟩)
   go_ret
   exact⟨rfl,HS.out⟩
end
end Wl
end Go.Proofs.YtdhgpmndgcggfaaGreatDoor
