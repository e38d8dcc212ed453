/- The program' -/
import Derived.Test.YtdhgpmndgcggfaaGreatDoorPF
import Derived.Test.YtdhgpmndgcggfaaGreatDoorShelf
set_option maxRecDepth 100000
set_option maxHeartbeats 3200000
namespace Go.Proofs.YtdhgpmndgcggfaaGreatDoor
open _root_.Go.Proofs.Tryz
open Lib renaming hid → af
open Value renaming int → Z, slice → am
open Go renaming World → av, Value → az
open Go.RowKit renaming Below → ax
open List renaming getElem?_eq_getElem → aD, mem_of_getElem? → aE, take_length → aeF, take_of_length_le → afo, drop_length → afv
open Go.RowKit.Below renaming refl → aes
open World renaming ownsRow_nil → aeP
section
namespace Tr
open Go.RowKit Go.Maps Gr

theorem Cj {G:Gp}{c:List Int}(h:aK G=true):gA G c=bp G c:=by simp[gA,h]
theorem xX {G:Gp}{c:List Int}(h:∀ z ∈ ids G,aI z):∀ z ∈ bp G c,aI z:=λz hz=>h z (pL hz)
theorem oU {l:List Int}{j:Nat}{z:Int}(p:Int->Bool)(h:l[j]?=some z):(l.take (j+1)).filter p=(l.take j).filter p++if p z then [z] else []:=by rw[take_snoc h,List.filter_append];cases hp:p z <;> simp[hp]
theorem SV {B:Nat}{a w:av}(h:ax B a w)(n:Nat):ax B a (w.drewN n):=⟨h.os,h.tape,h.output,h.size,h.block⟩
theorem lW {w:av}{B n:Nat}{e:TypeId}{s:Nat}{v:az}{xs:List az}(h:w.ownsRow B e s v n xs)(m:Nat):(w.drewN m).ownsRow B e s v n xs:=h
theorem zW (G:Gp)(c:List Int)(w:av)(gv cv:az)(hg:nT w gv G)(hc:Rd w cv c) :
  aG 287 #[gv,cv] w (.bool (aY c (ids G))) λw'=>ax w.heap.size w w':=by
 obtain⟨A,cap,B,cb,rfl,h1,h2,h3⟩:=id hg;obtain⟨_,cA,cc,rfl,eQ,qf,hc3⟩:=id hc;obtain⟨v0,q,fS,hq,K,hb0,U9⟩:=jF w (am A G.nodes.length cap) (am B G.roots.length cb);have qo:ax w.heap.size w v0:=by rw[hq];exact hb0
 have H3:=af h3;have HC3:=af hc3;have XX:=af qo;have HK:=af K;have keep:∀ wx:av,ax v0.heap.size v0 wx->wx.cell? ⟨q,0,none⟩=some (am A G.nodes.length cap)/\wx.cell? ⟨q,1,none⟩=some (am B G.roots.length cb)/\ax w.heap.size w wx:=λwx h =>⟨(K.below h (by omega)).cell (i:=0) rfl,(K.below h (by omega)).cell (i:=1) rfl,aH qo h⟩
 have KP:=af keep;clear h3 h2 K hb0 hg hc hc3 qo keep;go_enter func287,ntmps287;go_wp2_with fail
 go_loopg [5] c.length (λg s5 wx=>∃ (j:Nat),j+g=c.length/\s5 = Z .i64 j/\Aside (aY (c.drop j) (ids G)=aY c (ids G))/\Aside (ax v0.heap.size v0 wx))
 case atStart=>exact⟨0,by omega,rfl,rfl,aes _ _⟩
 case round =>
  obtain⟨j,hj,rfl,hr,hF⟩:=hrel;obtain⟨k0,k1,ia⟩:=KP.out _ hF.out;cases gk with
  | zero =>
   have:j=c.length:=by omega
   subst this;have zb:=hr.out;rw[afv] at zb;have HR:=af zb;have DN:=af ia;clear zb hr ia;go_wp2_with fail;go_ret;exact⟨aN HR.out,DN.out⟩
  | succ g =>
   obtain⟨z,hz⟩:∃ z,c[j]?=some z:=⟨_,aD (by omega)⟩
   obtain⟨b,o,rfl,ic,Ax⟩:=HC3.out j z hz;have HCZ:Aside (∀ wx,ax v0.heap.size v0 wx->wx.cell? ⟨b,o+j,none⟩=some (Z .i64 z)):=λwx h=>((KP.out wx h).2.2.cell (p:=⟨b,_,none⟩) ic).trans Ax
   have hlt:(j:Int)<c.length:=by omega
   have HR:Aside ((Rt.hasB (ids G) z && aY (c.drop (j+1)) (ids G))=aY c (ids G)):=by have:=hr.out;rw[Rt.drop_at hz] at this;exact this
   clear hr hz ic Ax ia;go_wp2_with fail;clear k0 k1
   go_loopg [6,7] G.nodes.length (λgi s6 s7 wx=>∃ (i:Nat) (bb:Bool),i+gi=G.nodes.length/\s7 = Z .i64 i/\s6 = .bool bb/\Aside (bb=Rt.hasB ((ids G).take i) z)/\Aside (ax v0.heap.size v0 wx))
   case atStart=>exact⟨0,false,by omega,rfl,rfl,rfl,hF.out⟩
   case round =>
    obtain⟨i,bb,hi,rfl,rfl,LU,hF⟩:=hrel;obtain⟨k0,k1,ia⟩:=KP.out _ hF.out;cases gk with
    | zero =>
     have:i=G.nodes.length:=by omega
     subst this;have HBB:Aside (bb=Rt.hasB (ids G) z):=by have:=LU.out;rwa [afo (by rw[kO];exact Nat.le_refl _)] at this
     have DN:=af ia;clear LU ia;cases bb
     ·go_wp2_with fail
      go_ret;exact⟨aN (by rw[<- HR.out,<- HBB.out];rfl),DN.out⟩
     ·go_wp2_with fail
      go_roundg g
      case measure=>omega
      case rel=>exact⟨j+1,by omega,by go_num,by show _=_;rw[<- HR.out,<- HBB.out];rfl,hF.out⟩
    | succ gi =>
     obtain⟨x,hx⟩:∃ x,G.nodes[i]?=some x:=⟨_,aD (by omega)⟩
     obtain⟨Ph,b',o',C,cc',rfl,ic,c1,c2,_⟩:=H3.out i x hx;have d1:=(ia.cell (p:=⟨b',_,none⟩) ic).trans c1;have d2:=HCZ.out _ hF.out;have jQ:(i:Int)<G.nodes.length:=by omega
     have HX:Aside (Rt.hasB ((ids G).take (i+1)) z=(bb || x.id == z)):=by show _=_;rw[xp hx,LU.out];unfold Rt.hasB;simp[List.any_append]
     clear hx c1 c2 Ph ia LU ic;cases bb
     ·by_cases he:x.id=z
      ·go_wp2_with fail
       first | (go_quiet (fail)) | skip
       go_wp2_with fail
       go_roundg gi
       case measure=>omega
       case rel=>exact⟨i+1,true,by omega,by go_num,by simp,by show _=_;rw[HX.out];simp[he],by first | exact hF.out | exact below_drewN hF.out _⟩
      ·go_wp2_with fail
       first | (go_quiet (fail)) | skip
       go_wp2_with fail
       go_roundg gi
       case measure=>omega
       case rel=>exact⟨i+1,false,by omega,by go_num,by simp[he],by show _=_;rw[HX.out];simp[he],by first | exact hF.out | exact below_drewN hF.out _⟩
     ·go_wp2_with fail
      first | (go_quiet (fail)) | skip
      go_wp2_with fail
      go_roundg gi
      case measure=>omega
      case rel=>exact⟨i+1,true,by omega,by go_num,rfl,by show _=_;rw[HX.out];rfl,by first | exact hF.out | exact below_drewN hF.out _⟩
theorem ve (G:Gp)(k c:List Int)(w:av)(gv kv cv:az)(hg:nT w gv G)(hk:Rd w kv k)(hc:Rd w cv c)(hn:G.nodes.length<=1000) :
  aG 288 #[gv,kv,cv] w (.bool (gB G k c)) λw'=>ax w.heap.size w w':=by
 obtain⟨A,cap,B,cb,rfl,h1,h2,h3⟩:=id hg;obtain⟨_,kA,kc,rfl,LR,yK,Dl⟩:=id hk;obtain⟨v0,q,fS,hq,K,hb0,U9⟩:=jF w (am A G.nodes.length cap) (am B G.roots.length cb);have qo:ax w.heap.size w v0:=by rw[hq];exact hb0
 have pm:=hg.below qo;have UY:=af pm;have M_:=af (hc.below qo);have HK3:=af Dl;have XX:=af qo;have keep:∀ wx:av,ax v0.heap.size v0 wx->wx.cell? ⟨q,0,none⟩=some (am A G.nodes.length cap)/\wx.cell? ⟨q,1,none⟩=some (am B G.roots.length cb)/\ax w.heap.size w wx:=λwx h =>⟨(K.below h (by omega)).cell (i:=0) rfl,(K.below h (by omega)).cell (i:=1) rfl,aH qo h⟩
 have KP:=af keep;obtain⟨k0,k1,_⟩:=keep _ (aes _ v0);have cR:=cO G v0 _ pm (by omega);have hT:gB G k c=(aK G && decide (k.length=G.nodes.length) && US k && aY c (ids G)):=rfl;have HT:=af hT;have hkl:k.length<=9223372036854775807:=by omega
 clear h3 h2 K hb0 hg hk Dl hc pm qo keep hT;go_enter func288,ntmps288;go_wp2_with fail;refine aP cR λw1 aO=>?_
 have dE:Aside (ax v0.heap.size v0 w1):=aO;clear aO cR k0 k1;obtain⟨k0,k1,_⟩:=KP.out _ dE.out;have cK:=zW G c w1 _ _ (UY.out.below dE.out) (M_.out.below dE.out);go_wp2_with fail;refine aP cK λw2 bC=>?_
 have f_:Aside (ax v0.heap.size v0 w2):=aH dE.out bC;clear bC cK k0 k1;obtain⟨k0,k1,jI⟩:=KP.out _ f_.out;have OM:=af jI;clear jI;generalize aK G=a1 at *;generalize aY c (ids G)=a2 at *;cases a1
 ·have HA:Aside (gB G k c=false):=by show _=_;rw[HT.out];rfl
  cases a2 <;> (go_wp2_with fail;go_ret;exact⟨aN HA.out.symm,OM.out⟩)
 cases a2
 ·have HA:Aside (gB G k c=false):=by show _=_;rw[HT.out];simp
  go_wp2_with fail;go_ret;exact⟨aN HA.out.symm,OM.out⟩
 by_cases hlen:k.length=G.nodes.length
 ·have abA:(k.length:Int)=G.nodes.length:=by omega
  have oa:=af hlen;clear hlen;go_wp2_with fail
  go_loopg [9] k.length (λg s9 wx=>∃ (i:Nat),i+g=k.length/\s9 = Z .i64 i/\Aside (US (k.drop i)=US k)/\w2=wx)
  case atStart=>exact⟨0,by omega,rfl,rfl,rfl⟩
  case round =>
   obtain⟨i,hi,rfl,hr,rfl⟩:=hrel;cases gk with
   | zero =>
    have:i=k.length:=by omega
    subst this;have HN:Aside (true=US k):=by have:=hr.out;rw[afv] at this;exact this
    have HA:Aside (true=gB G k c):=by show _=_;rw[HT.out,<- HN.out,decide_eq_true oa.out];rfl
    clear hr;go_wp2_with fail;go_ret;exact⟨aN HA.out,OM.out⟩
   | succ g =>
    obtain⟨z,hz⟩:∃ z,k[i]?=some z:=⟨_,aD (by omega)⟩
    obtain⟨b,o,rfl,ic,OI⟩:=HK3.out i z hz;have OI:=(OM.out.cell (p:=⟨b,_,none⟩) ic).trans OI;have hlt:(i:Int)<k.length:=by omega
    have HN:Aside ((decide (0<=z) && US (k.drop (i+1)))=US k):=by have:=hr.out;rw[Rt.drop_at hz] at this;exact this
    clear hr hz ic;by_cases gU:z<0
    ·have HA:Aside (gB G k c=false):=by
      show _=_;rw[HT.out,<- HN.out,decide_eq_false (by omega:¬ 0<=z)];simp
     go_wp2_with fail;go_ret;exact⟨aN HA.out.symm,OM.out⟩
    ·go_wp2_with fail
     go_roundg g
     case measure=>omega
     case rel=>exact⟨i+1,by omega,by go_num,by show _=_;rw[<- HN.out,decide_eq_true (by omega:0<=z)];rfl,rfl⟩
 ·have HA:Aside (gB G k c=false):=by
   show _=_;rw[HT.out,decide_eq_false hlen];rfl
  have abA:¬ (k.length:Int)=G.nodes.length:=by omega
  go_wp2_with fail;go_ret;exact⟨aN HA.out.symm,OM.out⟩
theorem ua (G:Gp)(c:List Int)(w:av)(gv cv:az)(hg:nT w gv G)(hc:Rd w cv c)(hn:G.nodes.length<=1000) :
  Calls prog 266 #[gv,cv] w λe w'=>∃ u,e = .returned u/\w'.ownsRow w.heap.size 3 1 u (j4 G c).length (vals (j4 G c))/\ax w.heap.size w w':=by
 obtain⟨A,cap,B,cb,rfl,h1,h2,h3⟩:=id hg;obtain⟨v0,q,fS,hq,K,hb0,U9⟩:=jF w (am A G.nodes.length cap) (am B G.roots.length cb);have qo:ax w.heap.size w v0:=by rw[hq];exact hb0
 have pm:=hg.below qo;have UY:=af pm;have M_:=af (hc.below qo);have XX:=af qo;have keep:∀ wx:av,ax v0.heap.size v0 wx->wx.cell? ⟨q,0,none⟩=some (am A G.nodes.length cap)/\wx.cell? ⟨q,1,none⟩=some (am B G.roots.length cb)/\ax w.heap.size w wx:=λwx h =>⟨(K.below h (by omega)).cell (i:=0) rfl,(K.below h (by omega)).cell (i:=1) rfl,aH qo h⟩
 have KP:=af keep;obtain⟨k0,k1,_⟩:=keep _ (aes _ v0);have cR:=cO G v0 _ pm (by omega);have hT:j4 G c=if aY c (ids G) then (if aK G then bp G c else []) else []:=rfl
 have HT:=af hT;have hRA:gA G c=if aK G then bp G c else []:=rfl
 have HRA:=af hRA;clear h3 h2 K hb0 hg hc pm qo keep hT hRA;go_enter func266,ntmps266;go_wp2_with fail;refine aP cR λw1 aO=>?_
 have dE:Aside (ax v0.heap.size v0 w1):=aO;clear aO cR k0 k1;obtain⟨k0,k1,_⟩:=KP.out _ dE.out;have cK:=zW G c w1 _ _ (UY.out.below dE.out) (M_.out.below dE.out);go_wp2_with fail;refine aP cK λw2 bC=>?_
 have f_:Aside (ax v0.heap.size v0 w2):=aH dE.out bC;clear bC cK k0 k1;obtain⟨k0,k1,jI⟩:=KP.out _ f_.out;have OM:=af jI;clear jI;have cR:=xq G c w2 _ _ (UY.out.below f_.out) (M_.out.below f_.out) hn;generalize aK G=a1 at *;generalize aY c (ids G)=a2 at *;cases a1
 ·have HA:Aside (j4 G c=[]):=by show _=_;rw[HT.out];simp
  clear cR;cases a2 <;> (go_wp2_with fail;go_ret;exact⟨_,rfl,by rw[HA.out];exact aeP _ _ _ _,OM.out⟩)
 cases a2
 ·have HA:Aside (j4 G c=[]):=by show _=_;rw[HT.out];rfl
  clear cR;go_wp2_with fail;go_ret;exact⟨_,rfl,by rw[HA.out];exact aeP _ _ _ _,OM.out⟩
 have HA:Aside (j4 G c=gA G c):=by show _=_;rw[HT.out,HRA.out];rfl
 go_wp2_with fail;refine cR.mono ?_;rintro e w3 ⟨u,rfl,hu,dj⟩;have HU:=af hu;have yL:Aside (ax w.heap.size w w3):=aH OM.out dj;clear hu dj cR k0 k1;go_wp2_with fail;go_ret;exact⟨u,rfl,by rw[HA.out];exact rI HU.out OM.out.size,yL.out⟩
theorem WE {G:Gp}{gray:List Int}{j:Nat}{x:Nd}(hx:G.nodes[j]?=some x)(hg:Rt.hasB gray x.id=true)(z:Int):((ptrs gray (G.nodes.take (j+1))).count z:Int)=((ptrs gray (G.nodes.take j)).count z:Int)+(x.out.count z:Int):=by rw[take_snoc hx,uM,jN,if_pos hg,List.count_append];omega
theorem SX {G:Gp}{gray:List Int}{j:Nat}{x:Nd}(hx:G.nodes[j]?=some x)(hg:Rt.hasB gray x.id=false)(z:Int):((ptrs gray (G.nodes.take (j+1))).count z:Int)=((ptrs gray (G.nodes.take j)).count z:Int):=by rw[take_snoc hx,uM,jN,hg];simp
theorem vf {G:Gp}{k c:List Int}(h:gB G k c=true):j4 G c=bp G c:=by obtain⟨h1,_,_,h4⟩:=mW h;simp[j4,gA,h1,h4]
theorem Jm (G:Gp)(k c:List Int)(w:av)(gv kv cv:az)(hg:nT w gv G)(hk:Rd w kv k)(hc:Rd w cv c)(hn:G.nodes.length<=1000)(hO:∀ n ∈ G.nodes,n.out.length<=100000) :
  Calls prog 289 #[gv,kv,cv] w λe w'=>∃ u,e = .returned u/\w'.ownsRow w.heap.size 3 1 u (mV G k c).length (vals (mV G k c))/\ax w.heap.size w w':=by
 have Yc:=hg.Ix;obtain⟨A,cap,B,cb,rfl,h1,h2,h3⟩:=id hg;obtain⟨hko,kA,kc,rfl,LR,yK,Dl⟩:=id hk;obtain⟨v0,q,fS,hq,K,hb0,U9⟩:=jF w (am A G.nodes.length cap) (am B G.roots.length cb);have qo:ax w.heap.size w v0:=by rw[hq];exact hb0
 have pm:=hg.below qo;have UY:=af pm;have M_:=af (hc.below qo);have H3:=af h3;have HK3:=af Dl;have HKO:=af hko;have XX:=af qo;have HI:=af Yc;have HOl:=af hO;have keep:∀ wx:av,ax v0.heap.size v0 wx->wx.cell? ⟨q,0,none⟩=some (am A G.nodes.length cap)/\wx.cell? ⟨q,1,none⟩=some (am B G.roots.length cb)/\ax w.heap.size w wx:=λwx h =>⟨(K.below h (by omega)).cell (i:=0) rfl,(K.below h (by omega)).cell (i:=1) rfl,aH qo h⟩
 have KP:=af keep;obtain⟨k0,k1,_⟩:=keep _ (aes _ v0);have cT:=ve G k c v0 _ _ _ pm (hk.below qo) (hc.below qo) hn;clear h3 h2 K hb0 hg hk Dl hc pm qo keep hko Yc hO;go_enter func289,ntmps289;cases ht:gB G k c
 ·rw[ht] at cT
  have HA:Aside (mV G k c=[]):=by show _=_;simp[mV,ht]
  clear ht;go_wp2_with fail;refine aP cT λw1 aO=>?_
  have dE:Aside (ax w.heap.size w w1):=aH XX.out aO;clear aO cT k0 k1;go_wp2_with fail;go_ret;exact⟨_,rfl,by rw[HA.out];exact aeP _ _ _ _,dE.out⟩
 ·rw[ht] at cT
  have HA:Aside (mV G k c=IA G k (bp G c)):=by show _=_;simp[mV,ht]
  have HGA:=af (vf ht);obtain⟨t1,t2,_,_⟩:=mW ht;have HRi:=af (zF t1);have HT2:=af t2;clear ht t1 t2;go_wp2_with fail;refine aP cT λw1 aO=>?_
  have dE:Aside (ax v0.heap.size v0 w1):=aO;clear aO cT k0 k1;obtain⟨k0,k1,_⟩:=KP.out _ dE.out;have cR:=ua G c w1 _ _ (UY.out.below dE.out) (M_.out.below dE.out) hn;rw[HGA.out] at cR;go_wp2_with fail;refine cR.mono ?_;rintro e w2 ⟨u,rfl,hu,bC⟩;have f_:Aside (ax v0.heap.size v0 w2):=aH dE.out bC;obtain⟨yl,Y8⟩:∃ L,bp G c=L:=⟨_,rfl⟩
  have hrd:Rd w2 u (bp G c):=Rd.row hu (xX HI.out);have HYF:Aside ((ids G).filter (Rt.hasB yl)=yl):=by have:=Bt HRi.out c;rw[Y8] at this;exact this
  rw[Y8] at hrd;have HYL:=af Y8;have acg:∀ (x:Int) (wx:av),ax w2.heap.size w2 wx->aT 78 #[u,Z .i64 x] wx (.bool (Rt.hasB yl x)):=λx wx h=>d_ yl x wx u (hrd.below h)
  have HH:=af acg;clear hu bC cR k0 k1 hrd Y8 acg;go_wp2_with fail
  go_loopg [9,10] G.nodes.length (λg s9 s10 wx=>∃ (j:Nat) (L:List Int) (rv:az),j+g=G.nodes.length/\s10 = Z .i64 j/\rv=s9/\Aside (L=(((ids G).take j).filter (Rt.hasB yl)).map (jM G k yl))/\L.length<=j/\Aside (wx.ownsRow w2.heap.size 3 1 rv L.length (vals L))/\Aside (ax w2.heap.size w2 wx))
  case atStart=>exact⟨0,[],_,by omega,rfl,rfl,rfl,by simp,aeP _ _ _ _,aes _ _⟩
  case round =>
   obtain⟨j,L,rv,hj,rfl,rfl,hL,hLl,ho,hF⟩:=hrel;obtain⟨k0,k1,ia⟩:=KP.out _ (aH f_.out hF.out);cases gk with
   | zero =>
    have:j=G.nodes.length:=by omega
    subst this;have K4:Aside (L=mV G k c):=by show _=_;rw[HA.out,HYL.out,hL.out,afo (by rw[kO];exact Nat.le_refl _),HYF.out];rfl
    have zh:w.heap.size<=w2.heap.size:=by have:=(aH XX.out f_.out).size;omega
    have DN:=af ia;clear hL hF ia;go_wp2_with fail;go_ret;exact⟨_,rfl,by rw[<- K4.out];exact rI ho.out zh,DN.out⟩
   | succ g =>
    obtain⟨x,hx⟩:∃ x,G.nodes[j]?=some x:=⟨_,aD (by omega)⟩
    obtain⟨Ph,b,o,C,cc,rfl,ic,c1,c2,hrd⟩:=H3.out j x hx;have hlt:(j:Int)<G.nodes.length:=by omega
    have d1:=(ia.cell (p:=⟨b,_,none⟩) ic).trans c1;have ji:=HH.out x.id wr hF.out;have HT:Aside ((((ids G).take (j+1)).filter (Rt.hasB yl)).map (jM G k yl)=L++if Rt.hasB yl x.id then [jM G k yl x.id] else []):=by
     show _=_;rw[oU _ (oH hx),List.map_append,hL.out]
     congr 1
     cases Rt.hasB yl x.id <;> rfl
    have hsz:=hF.out.size;cases hv:Rt.hasB yl x.id
    ·rw[hv] at ji
     have HV:=af hv;clear hx c1 c2 ic hrd ia hL hv
     go_wp2_with (go_at_call 78;refine bH ji ?_)
     go_roundg g
     case measure=>omega
     case rel=>exact⟨j+1,L,_,by omega,by go_num,rfl,by show _=_;rw[HT.out,HV.out];simp,by omega,ho.out,hF.out⟩
    ·rw[hv] at ji
     have HV:=af hv;obtain⟨d,hd⟩:∃ d,k[j]?=some d:=⟨_,aD (by have:=HT2.out;omega)⟩
     obtain⟨kb,ko,rfl,UD,hkc⟩:=HK3.out j d hd;have hkc:=(ia.cell (p:=⟨kb,_,none⟩) UD).trans hkc;have hkk:(j:Int)<k.length:=by have:=HT2.out;omega
     have HD:=af (HKO.out d (aE hd));have HRX:Aside (jM G k yl x.id=wrap64 (d - ((ptrs yl G.nodes).count x.id:Int))):=by show _=_;unfold jM;rw[EB HRi.out hx hd]
     have HC1:Aside (∀ wx,ax w2.heap.size w2 wx->wx.cell? ⟨b,o+j * 2,none⟩=some (Z .i64 x.id)):=λwx h=>((KP.out wx (aH f_.out h)).2.2.cell (p:=⟨b,_,none⟩) ic).trans c1
     clear hx c1 c2 ic hrd ia hL hv hd UD
     go_wp2_with (go_at_call 78;refine bH ji ?_)
     clear k0 k1 ji hkc d1
     go_loopg [12,13] G.nodes.length (λgi s12 s13 wx=>∃ (i:Nat) (a:Int),i+gi=G.nodes.length/\s13 = Z .i64 i/\s12 = Z .i64 a/\Aside (a=wrap64 (d - ((ptrs yl (G.nodes.take i)).count x.id:Int)))/\Aside (wx.ownsRow w2.heap.size 3 1 rv L.length (vals L))/\Aside (ax w2.heap.size w2 wx))
     case atStart=>exact⟨0,d,by omega,rfl,rfl,by show _=_;rw[List.take_zero];simp[ptrs,cB HD.out],ho.out,hF.out⟩
     case round =>
      obtain⟨i,a,hi,rfl,rfl,ha,Da,GR⟩:=hrel;obtain⟨k0,k1,ia⟩:=KP.out _ (aH f_.out GR.out);cases gk with
      | zero =>
       have:i=G.nodes.length:=by omega
       subst this;have HAA:Aside (a=jM G k yl x.id):=by show _=_;rw[ha.out,HRX.out,aeF]
       have ac6:=GR.out.size;clear ha ia
       go_wp2_with (at_builtin;refine fC _ rfl _ _ rfl w2.heap.size _ L rfl (Da.out.alloc _) _ 1 a rfl (ju _ _) (by omega) (by first | omega | (simp;omega)) ?_;intro v1 w6 eH aO;have O1:Aside (w6.ownsRow w2.heap.size 3 1 v1 (L++[a]).length (vals (L++[a]))):=eH;have B1:Aside (ax w2.heap.size w2 w6):=(GR.out.alloc ac6 _).trans aO;clear eH aO)
       go_roundg g
       case measure=>omega
       case rel=>exact⟨j+1,L++[a],_,by omega,by go_num,rfl,by show _=_;rw[HT.out,HV.out,HAA.out];simp,by simp;omega,O1.out,B1.out⟩
      | succ gi =>
       obtain⟨y,hy⟩:∃ y,G.nodes[i]?=some y:=⟨_,aD (by omega)⟩
       obtain⟨hyo,b',o',C',cc',e',vD,c1',c2',Nz⟩:=H3.out i y hy;simp only[Option.some.injEq,Addr.mk.injEq,and_true] at e';obtain⟨rfl,rfl⟩:=e';have d1:=(ia.cell (p:=⟨b,_,none⟩) vD).trans c1';have d2:=(ia.cell (p:=⟨b,_,none⟩) vD).trans c2';have d3:=HC1.out _ GR.out;have jQ:(i:Int)<G.nodes.length:=by omega
       have ji:=HH.out y.id _ GR.out;cases hv:Rt.hasB yl y.id
       ·rw[hv] at ji
        have HP:Aside (((ptrs yl (G.nodes.take (i+1))).count x.id:Int)=((ptrs yl (G.nodes.take i)).count x.id:Int)):=SX hy hv x.id;clear hy c1' c2' vD Nz ia hv
        go_wp2_with (go_at_call 78;refine bH ji ?_)
        go_roundg gi
        case measure=>omega
        case rel=>exact⟨i+1,a,by omega,by go_num,rfl,by show _=_;rw[HP.out];exact ha.out,Da.out,GR.out⟩
       ·rw[hv] at ji
        have HP:Aside (((ptrs yl (G.nodes.take (i+1))).count x.id:Int)=((ptrs yl (G.nodes.take i)).count x.id:Int)+(y.out.count x.id:Int)):=WE hy hv x.id;have cT:∀ n,aG 139 #[am C' y.out.length cc',Z .i64 x.id] (wr.drewN n) (Z .i64 (y.out.count x.id)) λw'=>wr.drewN n=w':=λn=>times_any y.out x.id _ _ (Nz.below (below_drewN ia n)) (HOl.out y (aE hy))
        obtain⟨t,ht⟩:∃ t:Int,((y.out.count x.id:Nat):Int)=t:=⟨_,rfl⟩
        rw[ht] at cT;have FR:=af ht;clear hy c1' c2' vD Nz ia hv ht
        go_wp2_with (go_at_call 78;refine bH ji ?_)
        go_quiet ((go_at_call 139;exact bu (cT _)));go_wp2_with fail
        go_roundg gi
        case measure=>omega
        case rel=>exact⟨i+1,wrap64 (a - t),by omega,by go_num,rfl,by show _=_;rw[HP.out,FR.out,ha.out,EC];congr 1;omega,lW Da.out nq,SV GR.out nq⟩
theorem Jn (G:Gp)(k c:List Int)(w:av)(gv kv cv:az)(hg:nT w gv G)(hk:Rd w kv k)(hc:Rd w cv c)(hn:G.nodes.length<=1000)(hO:∀ n ∈ G.nodes,n.out.length<=100000) :
  Calls prog 267 #[gv,kv,cv] w λe w'=>∃ u,e = .returned (.tuple #[u,Z .i64 (xt G k c)])/\w'.ownsRow w.heap.size 3 1 u (dR G k c).length (vals (dR G k c))/\ax w.heap.size w w':=by
 have Yc:=hg.Ix;obtain⟨A,cap,B,cb,rfl,h1,h2,h3⟩:=id hg;obtain⟨v0,q,fS,hq,K,hb0,U9⟩:=jF w (am A G.nodes.length cap) (am B G.roots.length cb);have qo:ax w.heap.size w v0:=by rw[hq];exact hb0
 have pm:=hg.below qo;have UY:=af pm;have M_:=af (hc.below qo);have HK0:=af (hk.below qo);have XX:=af qo;have HI:=af Yc;have HOl:=af hO;have keep:∀ wx:av,ax v0.heap.size v0 wx->wx.cell? ⟨q,0,none⟩=some (am A G.nodes.length cap)/\wx.cell? ⟨q,1,none⟩=some (am B G.roots.length cb)/\ax w.heap.size w wx:=λwx h =>⟨(K.below h (by omega)).cell (i:=0) rfl,(K.below h (by omega)).cell (i:=1) rfl,aH qo h⟩
 have KP:=af keep;obtain⟨k0,k1,_⟩:=keep _ (aes _ v0);have cT:=ve G k c v0 _ _ _ pm (hk.below qo) (hc.below qo) hn;clear h3 h2 K hb0 hg hk hc pm qo keep Yc hO;go_enter func267,ntmps267;cases ht:gB G k c
 ·rw[ht] at cT
  have HA:Aside (dR G k c=[]/\xt G k c=1):=⟨by simp[dR,ht],by simp[xt,ht]⟩
  clear ht;go_wp2_with fail;refine aP cT λw1 aO=>?_
  have dE:Aside (ax w.heap.size w w1):=aH XX.out aO;clear aO cT k0 k1;go_wp2_with fail;go_ret2;exact⟨_,by rw[HA.out.2];rfl,by rw[HA.out.1];exact aeP _ _ _ _,dE.out⟩
 ·rw[ht] at cT
  have HA:Aside (dR G k c=kP G k (bp G c)/\xt G k c=0):=⟨by simp[dR,ht],by simp[xt,ht]⟩
  have HGA:=af (vf ht);have HRS:Aside (mV G k c=IA G k (bp G c)):=by show _=_;simp[mV,ht]
  obtain⟨t1,_,_,_⟩:=mW ht;have HRA:Aside (∀ c,gA G c=bp G c):=λc=>Cj t1
  clear ht t1;go_wp2_with fail;refine aP cT λw1 aO=>?_
  have dE:Aside (ax v0.heap.size v0 w1):=aO;clear aO cT k0 k1;obtain⟨k0,k1,_⟩:=KP.out _ dE.out;have cR:=ua G c w1 _ _ (UY.out.below dE.out) (M_.out.below dE.out) hn;rw[HGA.out] at cR;go_wp2_with fail;refine cR.mono ?_;rintro e w2 ⟨u,rfl,hu,bC⟩;have f_:Aside (ax v0.heap.size v0 w2):=aH dE.out bC;obtain⟨yl,Y8⟩:∃ L,bp G c=L:=⟨_,rfl⟩
  have hrd:Rd w2 u (bp G c):=Rd.row hu (xX HI.out);have hlen:=lY (G:=G) c;rw[Y8] at hrd hlen;have HYL:=af Y8;have HRD:=af hrd;clear hu bC cR k0 k1 hrd Y8;obtain⟨k0,k1,_⟩:=KP.out _ f_.out;have cS:=Jm G k c w2 _ _ _ (UY.out.below f_.out) (HK0.out.below f_.out) (M_.out.below f_.out) hn HOl.out;rw[HRS.out,HYL.out] at cS;go_wp2_with fail;refine cS.mono ?_;rintro e w3 ⟨ur,rfl,hur,dj⟩;have yL:Aside (ax v0.heap.size v0 w3):=aH f_.out dj;have hrr:Rd w3 ur (yl.map (jM G k yl)):=Rd.row hur (λx hx=>by
   obtain⟨y,_,rfl⟩:=List.mem_map.1 hx;exact kx _)
  obtain⟨hyo,yA,yc,rfl,pW,Uu,hy3⟩:=HRD.out.below dj;obtain⟨_,rA,rc,rfl,J7,hr2,hr3⟩:=hrr;simp only[List.length_map] at J7 ⊢;have HY3:=af hy3;have HYO:=af hyo;have HR3:=af hr3;clear cS hur dj k0 k1 hy3 hyo hr3;go_wp2_with fail
  go_loopg [11,12] yl.length (λg s11 s12 wx=>∃ (j:Nat) (L:List Int),j+g=yl.length/\s12 = Z .i64 j/\Aside (L=(yl.take j).filter (λz=>decide (0<jM G k yl z)))/\L.length<=j/\Aside (wx.ownsRow w3.heap.size 3 1 s11 L.length (vals L))/\Aside (ax w3.heap.size w3 wx))
  case atStart=>exact⟨0,[],by omega,rfl,rfl,by simp,aeP _ _ _ _,aes _ _⟩
  case round =>
   obtain⟨j,L,hj,rfl,hL,hLl,ho,hF⟩:=hrel;cases gk with
   | succ g =>
    obtain⟨z,hz⟩:∃ z,yl[j]?=some z:=⟨_,aD (by omega)⟩
    obtain⟨b,o,rfl,ic,hc⟩:=HY3.out j z hz;have hrz:(yl.map (jM G k yl))[j]?=some (jM G k yl z):=by rw[List.getElem?_map,hz];rfl
    obtain⟨b',o',rfl,vD,jh⟩:=HR3.out j _ hrz;have d1:=(hF.out.cell (p:=⟨b,_,none⟩) ic).trans hc;have d2:=(hF.out.cell (p:=⟨b',_,none⟩) vD).trans jh;have hlt:(j:Int)<yl.length:=by omega
    obtain⟨a,ha⟩:∃ a,jM G k yl z=a:=⟨_,rfl⟩
    rw[ha] at d2;have HT:Aside ((yl.take (j+1)).filter (λz=>decide (0<jM G k yl z))=L++if decide (0<a) then [z] else []):=by show _=_;rw[oU _ hz,hL.out,<- ha]
    have hsz:=hF.out.size;clear hz hc ic ha hL hrz vD jh;by_cases ha0:0<a
    ·go_wp2_with (at_builtin;refine fC _ rfl _ _ rfl w3.heap.size _ L rfl (ho.out.alloc _) _ 1 z rfl (ju _ _) (by omega) (by first | omega | (simp;omega)) ?_;intro v1 w6 eH aO;have O1:Aside (w6.ownsRow w3.heap.size 3 1 v1 (L++[z]).length (vals (L++[z]))):=eH;have B1:Aside (ax w3.heap.size w3 w6):=(hF.out.alloc hsz _).trans aO;clear eH aO d1 d2)
     go_roundg g
     case measure=>omega
     case rel=>exact⟨j+1,L++[z],by omega,by go_num,by show _=_;rw[HT.out];simp[ha0],by simp;omega,O1.out,B1.out⟩
    ·go_wp2_with fail
     go_roundg g
     case measure=>omega
     case rel=>exact⟨j+1,L,by omega,by go_num,by show _=_;rw[HT.out];simp[ha0],by omega,ho.out,hF.out⟩
   | zero =>
    have:j=yl.length:=by omega
    subst this;have K4:Aside (L=nL G k yl):=by show _=_;rw[hL.out,aeF];rfl
    have Db:Aside (ax v0.heap.size v0 wr):=aH yL.out hF.out;have HD4:Aside (ax w3.heap.size w3 wr):=hF.out;obtain⟨k0,k1,_⟩:=KP.out _ Db.out;have hLo:∀ z ∈ L,aI z:=λz hz=>by
     rw[K4.out] at hz;exact HYO.out z (List.mem_filter.1 hz).1
    have cR:=xq G L wr _ _ (UY.out.below Db.out) (Rd.row ho.out hLo) hn;rw[HRA.out] at cR;clear hLo hL ho hF;go_wp2_with fail;refine cR.mono ?_;rintro e w7 ⟨ub,rfl,hub,lg⟩;have HB7:Aside (ax v0.heap.size v0 w7):=aH Db.out lg;have HD7:Aside (ax w3.heap.size w3 w7):=aH HD4.out lg;have hbs:∀ (x:Int) (wx:av),ax w7.heap.size w7 wx->aT 78 #[ub,Z .i64 x] wx (.bool (Rt.hasB (bp G L) x)):=λx wx hx =>d_ (bp G L) x wx ub ((Rd.row hub (xX HI.out)).below hx)
    have HBS:=af hbs;clear hub lg cR k0 k1 hbs;go_wp2_with fail
    go_loopg [14,15] yl.length (λg s14 s15 wx=>∃ (j:Nat) (M:List Int),j+g=yl.length/\s15 = Z .i64 j/\Aside (M=(yl.take j).filter (λz=>!Rt.hasB (bp G L) z))/\M.length<=j/\Aside (wx.ownsRow w7.heap.size 3 1 s14 M.length (vals M))/\Aside (ax w7.heap.size w7 wx))
    case atStart=>exact⟨0,[],by omega,rfl,rfl,by simp,aeP _ _ _ _,aes _ _⟩
    case round =>
     obtain⟨j,M,hj,rfl,hM,hMl,ho,hF⟩:=hrel;cases gk with
     | zero =>
      have:j=yl.length:=by omega
      subst this;have HMM:Aside (M=dR G k c):=by show _=_;rw[HA.out.1,HYL.out,hM.out,aeF,K4.out];rfl
      have zh:w.heap.size<=w7.heap.size:=by have:=(aH XX.out HB7.out).size;omega
      have HBZ:Aside (ax w.heap.size w wr):=aH (aH XX.out HB7.out) hF.out;have HE:=af HA.out.2;clear hM hF;go_wp2_with fail;go_ret2;exact⟨_,by rw[HE.out];rfl,by rw[<- HMM.out];exact rI ho.out zh,HBZ.out⟩
     | succ g =>
      obtain⟨z,hz⟩:∃ z,yl[j]?=some z:=⟨_,aD (by omega)⟩
      obtain⟨b,o,rfl,ic,hc⟩:=HY3.out j z hz;have d1:=((aH HD7.out hF.out).cell (p:=⟨b,_,none⟩) ic).trans hc;have hlt:(j:Int)<yl.length:=by omega
      have ji:=HBS.out z wr hF.out;have HT:Aside ((yl.take (j+1)).filter (λz=>!Rt.hasB (bp G L) z)=M++if !Rt.hasB (bp G L) z then [z] else []):=by show _=_;rw[oU _ hz,hM.out]
      have hsz:=hF.out.size;clear hz hc ic hM;generalize Rt.hasB (bp G L) z=hv at *;cases hv
      ·go_wp2_with (first
        | (go_at_call 78;refine bH ji ?_)
        | (at_builtin;refine fC _ rfl _ _ rfl w7.heap.size _ M rfl (ho.out.alloc _) _ 1 z rfl (ju _ _) (by omega) (by first | omega | (simp;omega)) ?_;intro v1 w6 eH aO;have O1:Aside (w6.ownsRow w7.heap.size 3 1 v1 (M++[z]).length (vals (M++[z]))):=eH;have B1:Aside (ax w7.heap.size w7 w6):=(hF.out.alloc hsz _).trans aO;clear eH aO d1 ji))
       go_roundg g
       case measure=>omega
       case rel=>exact⟨j+1,M++[z],by omega,by go_num,by show _=_;rw[HT.out];simp,by simp;omega,O1.out,B1.out⟩
      ·go_wp2_with (go_at_call 78;refine bH ji ?_)
       go_roundg g
       case measure=>omega
       case rel=>exact⟨j+1,M,by omega,by go_num,by show _=_;rw[HT.out];simp,by omega,ho.out,hF.out⟩
end Tr
end
end Go.Proofs.YtdhgpmndgcggfaaGreatDoor
