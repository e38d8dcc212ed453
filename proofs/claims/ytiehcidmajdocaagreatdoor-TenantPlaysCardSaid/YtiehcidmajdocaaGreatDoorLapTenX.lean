/- TenantPlays as a call: the acts. -/
import Derived.Test.YtiehcidmajdocaaGreatDoorLapTenU
set_option maxRecDepth 100000
set_option maxHeartbeats 12800000
namespace Go.Proofs.YtiehcidmajdocaaGreatDoor
namespace Tn
open Hp Go.RowKit
attribute [local go_sem ↓] Go.wp_at_zero Go.wp_at_succ
section
variable {TP:Nat→Int→Ids→Nat→Part}(hT:TenOk TP)(x:Sh)(N:Int)(A:Option Addr)(cap:Nat)(L:List Tact)(w:World)
include hT
theorem plays16_loop (hl:Lay w)(hL:TactReads w A L)(hf:fitsB x L.length=true)(hN:1≤N∧N≤16) :
  Calls Tryz.prog 3 #[shV x,.int .i64 N,.slice A L.length cap] w fun e w'=>e = .returned (.bool true)∧Below w.heap.size w w':=by
 obtain⟨v0,q,hv0,hq,hK,hb0⟩:=share_box x w
 have hf':=hf
 unfold fitsB at hf'
 simp only [Bool.and_eq_true,decide_eq_true_eq] at hf'
 obtain⟨hm,hl60,_⟩:=hf'
 have HB:=Lib.hid hb0
 have HK:=Lib.hid hK
 have HL:=Lib.hid hl
 have HACT:=Lib.hid hL
 have HM:=Lib.hid hm
 have HNN:=Lib.hid hN
 obtain⟨s0,s1,s2,s3,s4⟩:=share_blk hK
 have HF:=fits16 x A cap L.length v0 hf
 unfold shV at HF ⊢
 have HF:=Lib.hid HF
 have H60:=Lib.hid hl60
 have hN1:¬ N<1:=by omega
 have hN2:¬ 16<N:=by omega
 clear hl hK hb0 hf hL hm hl60 hN
 go_enter Tryz.func3,Tryz.ntmps3
 go_wp2_with fail
 refine HF.out.mono ?_
 rintro e w1 ⟨rfl,hb1⟩
 have hk1:=HK.out.below hb1 HK.out.lt
 have HK1:=Lib.hid hk1
 have HB1:=Lib.hid (below_more HB.out hb1)
 have HBG:=begun16 hT x w1 (HL.out.below HB1.out) HM.out (N:=N) HNN.out.1 HNN.out.2
 unfold shV at HBG
 have HBG:=Lib.hid HBG
 clear s0 s1 s2 s3 s4 hb1 HF HB HK
 obtain⟨s0,s1,s2,s3,s4⟩:=share_blk hk1
 generalize List.replicate x.wd (0:Int)=L0 at *
 clear hk1
 go_wp2_with fail
 refine HBG.out.mono ?_
 rintro e w2 ⟨I,tb,cb,rfl,h2⟩
 have HBG2:=ns_made (s:=Hs.init x) rfl h2 HM.out
 unfold shV ptr at HBG2
 have HBG2:=Lib.hid HBG2
 obtain⟨s0',s1',s2',s3',s4'⟩:=share_blk (HK1.out.below h2.2.below HK1.out.lt)
 clear s0 s1 s2 s3 s4 h2 HBG
 go_wp2_with fail
 refine HBG2.out.mono ?_
 rintro e w3 ⟨J,mb,db,rfl,h3⟩
 have H3:=Lib.hid h3
 clear s0' s1' s2' s3' s4' h3 HBG2
 go_wp2_with fail
 go_loopw [11] (fun i wr=>∃ (k:Nat) (c:Cs) (s:Hs),k≤L.length∧i = .int .i64 k∧Aside (s.all.length≤k)∧Aside (s.ch≤70000 * k)∧Aside (NS TP [] w1 I J x L0 N tb cb mb db c s c s [] wr)) (fun i _=>L.length - (RowKit.intOf i).toNat)
 case atStart=>exact⟨0,_,_,by omega,rfl,by show _≤_;rw [init_all14 HM.out];exact Nat.le_refl _,by show (0:Int)≤_;omega,H3.out⟩
 case round =>
  obtain⟨k,c,s,hk,rfl,ha,hch,hS⟩:=hrel
  clear H3
  by_cases hlt:k<L.length
  ·obtain⟨y,hy⟩:∃ y,L[k]?=some y:=⟨_,List.getElem?_eq_getElem hlt⟩
   obtain⟨yok,b,off,rfl,hbl,hat⟩:=HACT.out k y hy
   have KEEP:=Lib.hid (fun (W:World) (hb:Below w1.heap.size w1 W)=>hat.keep hbl (HB1.out.trans (hb.mono HB1.out.size)))
   have hlt':(k:Int)<L.length:=by omega
   have hk60:k≤60:=by have:=H60.out;omega
   have HBD:=Lib.hid (show Bd N s from ⟨HNN.out.1,HNN.out.2,by have:=hch.out;omega,by have:=ha.out;omega⟩)
   obtain⟨pc,hcr⟩:=hS.out.cr
   have HNX:=tn_bounds (N:=N) hcr HBD.out.2.2.1 HBD.out.2.2.2 (vals_small hcr.ok) y yok
   have HAH:=Lib.hid (And.intro ha.out (And.intro hch.out hlt))
   have HYK:=Lib.hid yok
   have hDO:=ns_do hT hS.out HBD.out y yok
   have hWA:=fun (ts:List Part) (W:World) (d:Cs) (t:Hs) (hW:NS TP [] w1 I J x L0 N tb cb mb db c s d t ts W)=>ns_want hW hcr HBD.out y yok
   obtain⟨a0,a1,a2,a3,a4⟩:=KEEP.out _ hS.out.below
   obtain⟨X,hX⟩:∃ X,tnA x N s c y=X:=⟨_,rfl⟩
   obtain⟨s',hs'⟩:∃ z,tnS x N s c y=z:=⟨_,rfl⟩
   obtain⟨c',hc'⟩:∃ z,tnC x s c y=z:=⟨_,rfl⟩
   rw [hX,hs',hc'] at hDO hWA
   rw [hs'] at HNX
   unfold Tact.val at hDO hWA
   obtain⟨xe,xk,xw⟩:=X
   have HDO:=Lib.hid (ans_is hDO rfl)
   have HWA:=Lib.hid (fun ts W d t hW=>ans_is (hWA ts W d t hW) rfl)
   have HBX:=Lib.hid (show Bd N s' from ⟨HNN.out.1,HNN.out.2,by have:=hch.out;have:=HNX.1;omega,by have:=ha.out;have:=HNX.2;omega⟩)
   have HNY:=Lib.hid (show s'.all.length≤k+1∧s'.ch≤70000 * ((k+1:Nat):Int) from ⟨by have:=ha.out;have:=HNX.2;omega,by have:=hch.out;have:=HNX.1;push_cast;omega⟩)
   clear hy hat yok hcr ha hch hS hX hs' hc' hDO hWA HNX HBD
   unfold ptr at HDO
   go_wp2_with fail
   refine HDO.out.mono ?_
   rintro e w5 ⟨rfl,h5⟩
   obtain⟨v5,p5,hv5,hp5,h5⟩:=h5.ans xe xk xw
   have HW:=HWA.out _ _ _ _ h5
   unfold ptr at HW
   have HW:=Lib.hid HW
   clear a0 a1 a2 a3 a4 HDO HWA
   obtain⟨a0,a1,a2,a3,a4⟩:=KEEP.out _ h5.below
   clear h5
   go_wp2_with fail
   refine HW.out.mono ?_
   rintro e w6 ⟨rfl,h6⟩
   obtain⟨v6,p6,hv6,hp6,h6⟩:=h6.ans xe xk xw
   have HC:=ns_cell hT h6 HBX.out y.w HYK.out.2.1
   obtain⟨CV,hCV⟩:∃ z,nmV x N s' y.w=z:=⟨_,rfl⟩
   obtain⟨CE,hCE⟩:∃ z,nmE x N s' y.w=z:=⟨_,rfl⟩
   have HCC:=Lib.hid (And.intro hCV hCE)
   rw [hCV,hCE] at HC
   unfold ptr at HC
   have HC:=Lib.hid HC
   clear a0 a1 a2 a3 a4 HW hCV hCE
   obtain⟨a0,a1,a2,a3,a4⟩:=KEEP.out _ h6.below
   clear h6
   go_wp2_with fail
   refine HC.out.mono ?_
   rintro e w7 ⟨rfl,h7⟩
   have HC2:=ns_rcell h7 HM.out HNN.out y.w HYK.out.2.1
   rw [HCC.out.1,HCC.out.2] at HC2
   unfold ptr at HC2
   have HC2:=Lib.hid HC2
   clear a0 a1 a2 a3 a4 HC
   obtain⟨a0,a1,a2,a3,a4⟩:=KEEP.out _ h7.below
   clear h7
   go_wp2_with fail
   refine HC2.out.mono ?_
   rintro e w8 ⟨rfl,h8⟩
   have h9:=h8.more (Below.drew (Below.refl _ _))
   have m0:=h9.ld
   clear a0 a1 a2 a3 a4 HC2 h8
   obtain⟨a0,a1,a2,a3,a4⟩:=KEEP.out _ h9.below
   have HH:=ns_heap hT h9 HBX.out
   have HR:=ns_reads h9 ⟨0,y.m,y.n,0,0⟩ (hact_ok (by decide) (by decide) HYK.out.2.2.2.2 HYK.out.2.2.2.1 (by unfold i64ok;omega) (by decide) (by decide))
   unfold ptr at HH
   unfold Hact.val at HR
   have HH:=Lib.hid HH
   have HR:=Lib.hid HR
   clear h9
   go_wp2_with fail
   go_region_held3 (fun W=>W.cell? ⟨mb,1,none⟩=some (.pointer (some ⟨J.d,0,none⟩))∧W.cell? ⟨b,off+k * 5+4,none⟩=some (.int .i64 y.m)∧W.cell? ⟨b,off+k * 5+3,none⟩=some (.int .i64 y.n)) (first | exact⟨m0,a4,a3⟩ | exact⟨m1,n4,n3⟩)
    (first
     | (go_at_call 15;refine HH.out.mono ?_;rintro e w9 ⟨rfl,rfl⟩)
     | (go_at_call 14;refine HR.out.mono ?_;rintro e w10 ⟨rfl,h10⟩;have m1:=h10.ld;obtain⟨n0,n1,n2,n3,n4⟩:=KEEP.out _ h10.below;have H10:=Lib.hid h10;clear h10))
   obtain⟨hk6,h11⟩:=H10.out.out
   obtain⟨hk5,h12⟩:=h11.out
   have x0:=hk6.cell (i:=0) rfl
   have x1:=hk6.cell (i:=1) rfl
   have x2:=hk6.cell (i:=2) rfl
   have z0:=hk5.cell (i:=0) rfl
   have z1:=hk5.cell (i:=1) rfl
   have z2:=hk5.cell (i:=2) rfl
   have H12:=Lib.hid h12
   clear m0 m1 n0 n1 n2 n3 n4 a0 a1 a2 a3 a4 hk6 hk5 h11 h12 H10 HH HR
   go_wp2_with fail
   go_roundw
   case rel=>exact⟨k+1,c',s',HAH.out.2.2,by go_num,HNY.out.1,HNY.out.2,H12.out⟩
   case measure=>simp [RowKit.intOf];omega
  ·have e:k=L.length:=by omega
   have hlt':¬ ((k:Int)<L.length):=by omega
   have HW1:=Lib.hid hS.out.below
   clear hS ha hch HACT e
   go_wp2_with fail
   go_loopw [20] (fun i wx=>∃ (j:Nat),j≤10∧i = .int .i64 j∧Aside (Below w1.heap.size w1 wx)) (fun i _=>10 - (RowKit.intOf i).toNat)
   case atStart=>exact⟨0,by omega,rfl,HW1.out⟩
   case round =>
    obtain⟨j,hj,rfl,hb⟩:=hrel
    clear HW1
    by_cases hj10:j<10
    ·have hj':(j:Int)<10:=by omega
     have hj0:(0:Int)≤j:=by omega
     have HD:=do16_nil hT ⟨(j:Int),1,0,1,0⟩ ⟨by show (0:Int)≤j;omega,by show (j:Int)≤255;omega⟩ wr
     unfold wrong An.val Tact.val at HD
     have HD:=Lib.hid HD
     have HBW:=Lib.hid hb.out
     clear hb
     go_wp2_with fail
     refine HD.out.mono ?_
     rintro e w5 ⟨rfl,hb5⟩
     have HB5:=Lib.hid (below_more HBW.out hb5)
     clear hb5 HD HBW
     go_wp2_with fail
     go_roundw
     case rel=>exact⟨j+1,by omega,by go_num,HB5.out⟩
     case measure=>simp [RowKit.intOf];omega
    ·have e:j=10:=by omega
     subst e
     have HBW:=Lib.hid hb.out
     obtain⟨s0,s1,s2,s3,s4⟩:=share_blk (HK1.out.below hb.out HK1.out.lt)
     have hbw:=HB1.out.trans (hb.out.mono HB1.out.size)
     have HNE:=hT.new_nil wr x (HL.out.below hbw) HM.out
     unfold shV at HNE
     have HNE:=Lib.hid HNE
     have HB2:=Lib.hid hbw
     clear hb hbw HBW
     go_wp2_with fail
     refine HNE.out.mono ?_
     rintro e w5 ⟨rfl,hb5⟩
     have HB3:=Lib.hid (below_more HB2.out hb5)
     have HA:=Lib.hid (alive16 hT w5 (HL.out.below HB3.out))
     clear s0 s1 s2 s3 s4 hb5 HB2 HNE
     go_wp2_with fail
     refine HA.out.mono ?_
     rintro e w6 ⟨rfl,hb6⟩
     have HB4:=Lib.hid (below_more HB3.out hb6)
     have HH0:=Lib.hid (hT.heap0 w6)
     clear hb6 HA HB3
     go_wp2_with fail
     refine HH0.out.mono ?_
     rintro e w7 ⟨rfl,rfl⟩
     clear HH0
     go_wp2_with fail
     go_ret
     first | exact⟨rfl,HB4.out⟩ | exact⟨rfl,hq ▸ HB4.out⟩
theorem plays16_any (hl:Lay w)(hL:TactReads w A L) :
  Calls Tryz.prog 3 #[shV x,.int .i64 N,.slice A L.length cap] w fun e w'=>e = .returned (.bool true)∧Below w.heap.size w w':=by
 cases hf:fitsB x L.length
 ·exact plays16_not hT x N A cap L w hl hf
 ·by_cases hN:1≤N∧N≤16
  ·exact plays16_loop hT x N A cap L w hl hL hf hN
  ·exact plays16_off hT x N A cap L w hl hf (by omega)
end
end Tn
end Go.Proofs.YtiehcidmajdocaaGreatDoor
