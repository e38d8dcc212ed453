/- The program' -/
import Derived.Test.YtdhgpmndgcggfaaGreatDoorPS
set_option maxRecDepth 100000
set_option maxHeartbeats 3200000
namespace Go.Proofs.YtdhgpmndgcggfaaGreatDoor
open _root_.Go.Proofs.Tryz
open Lib renaming hid → af
open Value renaming int → Z, pointer → ai, agg → au
open IntKind renaming i64 → ag
open Go renaming World → av
open Obj renaming cells → aA
open Nat renaming le_refl → aem
open And renaming intro → aen
attribute [local go_sem ↓] Go.wp_at_zero Go.wp_at_succ
section
namespace Wl
open Hp Tn Px Go.RowKit Go.Maps
theorem Xf {w:av}{v:Value}{L:List Int}(h:Qu.Tl w v L)(hl:L.length<=1000)(z:Int){B:Bool}(hB:L.contains z=B):aT 261 #[v,Z ag z] w (.bool B):=by
 subst hB;rcases h.form with ⟨rfl,rfl⟩ | ⟨g,o,cap,rfl,_,_,_,hc⟩
 ·refine(Tryz.slices_Contains_int_empty none 0 z w).mono ?_
  rintro e w' ⟨rfl,rfl⟩;exact⟨rfl,rfl⟩
 ·refine(Tryz.slices_Contains_int g o L.length cap L z w (aem _) (by omega) (λj hj=>hc j _ ?_)).mono ?_
  ·rw[List.getD_eq_getElem?_getD,List.getElem?_eq_getElem hj]
   rfl
  ·rintro e w' ⟨rfl,rfl⟩
   exact⟨by rw[List.take_length],rfl⟩
section
variable {F0:List Nat}{w0 w w':av}{T K:Int}{J:Wi}{ms:List Tm}{qs:List Sw}{W V:Ws}{ts vs:List Part}{i a b t d:Int}{τ:Wt}{q:Sw}{o:Op}
theorem nP (h:Sy F0 w0 (q.ps++vs) w):(w.cell? ⟨q.sb,0,none⟩=some (ai (some ⟨q.tb,0,none⟩))/\w.cell? ⟨q.sb,1,none⟩=some q.v/\w.frozen? ⟨q.sb,1,none⟩=false)/\PT w q.tb q.es/\Qu.Tl w q.v q.ib:=by have hb:=h.blk (i:=0) rfl;obtain⟨_,⟨hP,_⟩,_⟩:=h.at_ (i:=1) rfl;obtain⟨_,⟨hT,_⟩,_⟩:=h.at_ (i:=2) rfl;exact⟨⟨hb.cell rfl,hb.cell rfl,hb.free 1⟩,hP,hT⟩
theorem Ah (h:Sy F0 w0 (q.ps++vs) w)(hl:q.ib.length<=1000)(en g:Int){B:Bool}(hB:(vG q.es en == g && q.ib.contains en)=B) :
  aT 219 #[ptr q.sb,Z ag en,Z ag g] w (.bool B):=by
 obtain⟨⟨c0,c1,_⟩,hP,hT⟩:=nP h;have HG:=Px.j8 hP en;obtain⟨G,hG⟩:∃ G,vG q.es en=G:=⟨_,rfl⟩
 rw[hG] at HG hB;have HC:=af (Xf hT hl en rfl);obtain⟨C,hC⟩:∃ C,q.ib.contains en=C:=⟨_,rfl⟩
 rw[hC] at HC hB;have HG:=af HG;rcases hT.form with ⟨hv,_⟩ | ⟨g0,o0,cap,hv,_⟩ <;>
 ·rw[hv] at c1 HC
  clear h hl hG hP hT hC hv;unfold ptr;cases hb:(G == g)
  ·rw[hb] at hB
   have hB:false=B:=hB;subst hB;go_enter func219,ntmps219;go_wp2_with fail;refine bH HG.out ?_;go_wp2_with fail;go_ret;exact⟨rfl,rfl⟩
  ·rw[hb] at hB
   have hB:C=B:=hB;subst hB;go_enter func219,ntmps219;go_wp2_with fail;refine bH HG.out ?_;go_wp2_with fail;refine bH HC.out ?_;go_wp2_with fail;go_ret;exact⟨rfl,rfl⟩
theorem TL (x:Int)(hx:bj x)(w:av):aG 154 #[Z .u64 x] w (Z ag (Hn.fG x)) λw'=>aF w w':=by
 have iu:=Hn.decode_any x w (by unfold bj at hx;unfold Hn.bj;omega);unfold Hn.j0 at iu;generalize Hn.fK x=k,Hn.fT x=t,Hn.fI x=i,Hn.fG x=g at iu ⊢;have HD:=af iu;clear iu;go_enter func154,ntmps154;go_wp2_with fail;refine aP HD.out λw1 aO=>?_
 obtain⟨v2,p2,Uz,OG,hK,bC⟩:∃ v2 p2,w1.alloc (aA #[Z ag k,Z ag t,Z ag i,Z ag g] 177)=v2/\w1.heap.size=p2/\bA v2 p2 177 [Z ag k,Z ag t,Z ag i,Z ag g]/\aF w v2 :=⟨_,_,rfl,rfl,bA.new _ _ _,aO.alloc aO.size _⟩
 have k3:=hK.cell (i:=3) rfl;have HB:=af bC;clear aO bC hK HD;go_wp2_with fail;go_ret;exact⟨rfl,HB.out⟩
theorem wC.more (h:wC F0 w0 T K J ms qs W ts w)(hb:aF w w'):wC F0 w0 T K J ms qs W ts w':=by obtain⟨vs,h1,h2⟩:=h.parts;exact h2 (h1.more hb)
theorem LH (h:wv W t d=true)(ht:kC W t=true)(hn:W.t.length<=16):Hn.i_ d=true:=by obtain⟨f1,f2,_⟩:=FK h;have h1:=oS ht;unfold Dj at f1;unfold Ff at f2;unfold Hn.i_ Hn.aK Hn.aY Hn.li Hn.uh Hn.oW Hn.kG;simp only[Bool.and_eq_true,decide_eq_true_eq];omega
def YK (W:Ws)(qs:List Sw)(t d:Int)(e:Ending):Prop :=
 wv W t d=false/\e = .returned (.tuple #[au #[Z ag 0,.pointer none,Z ag 0,Z ag 0],Z ag 4]) \/
 wv W t d=true/\∃ q ∈ qs,q.fr=iz d/\q.rc=t/\e = .returned (.tuple #[au #[Z ag (iz d),ai (some ⟨q.tb,0,none⟩),Z ag (jY d),Z ag (iM d)],Z ag 0])
theorem ol (h:wC F0 w0 T K J ms qs W ts w)(ht:kC W t=true)(hd:bj d) :
  Calls prog 159 #[ptr J.wb,Z ag t,Z .u64 d] w λe w'=>YK W qs t d e/\aF w w':=by
 have hlen:W.t.length<=16:=by rw[h.wt,List.length_map];exact h.few
 have acL:=oS ht;obtain⟨v1,p1,n_,sK,hP1,aO,hle⟩:∃ v1 p1,w.alloc (aA #[Z ag 0,.pointer none,Z ag 0,Z ag 0] 218)=v1/\w.heap.size=p1/\bA v1 p1 218 [Z ag 0,.pointer none,Z ag 0,Z ag 0]/\aF w v1/\w.heap.size<=p1 :=⟨_,_,rfl,rfl,bA.new _ _ _,(Below.refl _ _).alloc (aem _) _,aem _⟩
 have iu:=Hn.decode_any d v1 (by unfold bj at hd;unfold Hn.bj;omega);have HP1:=af hP1;have dE:=af aO;have HI:=af h;have oa:=af hle;clear hle;cases hr:Hn.i_ d
 ·have e1:Hn.lN d=4:=by unfold Hn.lN;rw[hr];rfl
  have Dq:wv W t d=false:=by
   cases hf:wv W t d
   ·rfl
   ·rw[LH hf ht hlen] at hr;cases hr
  rw[e1] at iu;unfold Hn.j0 at iu;generalize Hn.fK d=k,Hn.fT d=tt,Hn.fI d=i,Hn.fG d=g at iu;have HD:=af iu;have HF:=af Dq;unfold ptr;clear iu h hP1 aO e1 hr Dq hd hlen acL ht;go_enter func159,ntmps159;go_wp2_with fail;refine aP HD.out λw2 bC=>?_
  obtain⟨v3,p3,Y5,U5,hK,dj⟩:∃ v3 p3,w2.alloc (aA #[Z ag k,Z ag tt,Z ag i,Z ag g] 177)=v3/\w2.heap.size=p3/\bA v3 p1 218 [Z ag 0,.pointer none,Z ag 0,Z ag 0]/\aF w v3 :=⟨_,_,rfl,rfl,(HP1.out.below bC HP1.out.lt).alloc _,(aH dE.out bC).alloc (aH dE.out bC).size _⟩
  have k0:=hK.cell (i:=0) rfl;have k1:=hK.cell (i:=1) rfl;have k2:=hK.cell (i:=2) rfl;have k3:=hK.cell (i:=3) rfl;have f0:=hK.free 0;have f1:=hK.free 1;have f2:=hK.free 2;have f3:=hK.free 3;have HK:=af hK;have yL:=af dj;clear bC dj hK HD HP1 dE;go_wp2_with fail;exact bodyPost_ret (aV rfl _ _ p1 218 _ (0,0) _ _ rfl rfl ((((HK.out.set 0 _).set 1 _).set 2 _).set 3 _) underlying218 rfl (by kernel_rfl)) rfl ⟨Or.inl ⟨HF.out,rfl⟩,(((yL.out.setCell (p:=⟨p1,0,none⟩) oa.out _).setCell (p:=⟨p1,1,none⟩) oa.out _).setCell (p:=⟨p1,2,none⟩) oa.out _).setCell (p:=⟨p1,3,none⟩) oa.out _⟩
 ·have e1:Hn.lN d=0:=by unfold Hn.lN;rw[hr];rfl
  have e2:Hn.fK d=Dj d/\Hn.fT d=Ff d/\Hn.fI d=bP d/\Hn.fG d=iM d:=by unfold Hn.fK Hn.fT Hn.fI Hn.fG Hn.FW;rw[hr];exact⟨rfl,rfl,rfl,rfl⟩
  rw[e1,e2.1,e2.2.1,e2.2.2.1,e2.2.2.2] at iu;unfold Hn.j0 at iu;have hi:0<=bP d/\bP d<=67108863:=by unfold bP;omega
  have hF:wv W t d=(Dj d == 2 && Ff d == t && g_ W t (iz d) && !(vG (W.x (iz d) t) (jY d) == iM d && (qQ W (iz d) t).contains (jY d))):=by unfold wv;rw[SG h.sh.lt]
  have hS:=LG (a:=iz d) h.sh ht;unfold YK;unfold iz jY at *;obtain⟨i,hi'⟩:∃ i,bP d=i:=⟨_,rfl⟩
  rw[hi'] at iu hi hF hS ⊢;obtain⟨k,hk⟩:∃ k,Dj d=k:=⟨_,rfl⟩
  obtain⟨tt,UN⟩:∃ tt,Ff d=tt:=⟨_,rfl⟩
  obtain⟨g,hg⟩:∃ g,iM d=g:=⟨_,rfl⟩
  rw[hk,UN,hg] at iu hF;rw[hg];have HD:=af iu;obtain⟨fr,hfr⟩:∃ fr,i / 8+1=fr:=⟨_,rfl⟩
  obtain⟨en,GV⟩:∃ en,i % 8=en:=⟨_,rfl⟩
  have hdv:i.tdiv 8=fr - 1:=by rw[Int.tdiv_eq_ediv_of_nonneg hi.1];omega
  have hmd:i.tmod 8=en:=by rw[Int.tmod_eq_emod_of_nonneg hi.1];exact GV
  rw[hfr] at hF hS ⊢;rw[GV] at hF ⊢;have hfb:1<=fr/\fr<=8388608:=by omega
  have heb:0<=en/\en<=7:=by omega
  obtain⟨sv,hsv⟩:∃ sv,pn (J.f fr t)=sv:=⟨_,rfl⟩
  have HLK:=af (λ(v:av) (hv:aF w v)=>show (Instr.lookup 82 (.map (some J.mb)) (au #[Z ag fr,Z ag t]) false).run prog v = .ok sv v by
   rw[<- hsv];exact(HI.out.more hv).cells.2.2.2 fr t (by unfold aI;omega) (by unfold aI;omega))
  have X':=af (λ(v:av) (hv:aF w v)=>show v.cell? ⟨J.wb,2,none⟩=some (.map (some J.mb)) from (HI.out.more hv).cells.1.2.2);have HFF:=af hF;have HSS:=af hS;have HSV:=af hsv;have HG:=af (aen hg (aen hfr GV));unfold ptr;clear iu h hP1 aO e1 e2 hr hF hS hsv hd hlen hfr GV hi' hk UN hg;go_enter func159,ntmps159;go_wp2_with fail;refine aP HD.out λw2 bC=>?_
  obtain⟨v3,p3,Y5,U5,hK,hK1,dj⟩:∃ v3 p3,w2.alloc (aA #[Z ag k,Z ag tt,Z ag i,Z ag g] 177)=v3/\w2.heap.size=p3/\bA v3 p3 177 [Z ag k,Z ag tt,Z ag i,Z ag g]/\bA v3 p1 218 [Z ag 0,.pointer none,Z ag 0,Z ag 0]/\aF w v3 :=⟨_,_,rfl,rfl,bA.new _ _ _,(HP1.out.below bC HP1.out.lt).alloc _,(aH dE.out bC).alloc (aH dE.out bC).size _⟩
  have k0:=hK.cell (i:=0) rfl;have k1:=hK.cell (i:=1) rfl;have k2:=hK.cell (i:=2) rfl;have k3:=hK.cell (i:=3) rfl;have hmb:=X'.out v3.drew (dj.drew);have hlk:=HLK.out v3.drew (dj.drew);have HK:=af hK1;have yL:=af dj;clear bC dj hK hK1 HD HP1 dE;go_wp2_with fail;go_region
  all_goals
   have z0:=HK.out.cell (i:=0) rfl;have z1:=HK.out.cell (i:=1) rfl;have z2:=HK.out.cell (i:=2) rfl;have z3:=HK.out.cell (i:=3) rfl;have f0:=HK.out.free 0;have f1:=HK.out.free 1;have f2:=HK.out.free 2;have f3:=HK.out.free 3;by_cases yK:k=2
   ·by_cases UN:tt=t
    ·have b2:(k != 2)=false:=by simp[yK]
     have bt:(tt != t)=false:=by simp[UN]
     have HKT:=af (aen yK UN);clear yK UN;rcases HSS.out with ⟨ho,hf⟩ | ⟨ho,q,hq,q1,q2,hf⟩
     ·have HE:=af (show wv W t d=false by rw[HFF.out,ho];simp)
      rw[<- HSV.out,hf] at hlk;replace hlk:(Instr.lookup 82 (.map (some J.mb)) (au #[Z ag fr,Z ag t]) false).run prog v3.drew = .ok (.pointer none) v3.drew:=hlk;clear ho hf;go_wp2_with fail;exact bodyPost_ret (aV rfl _ _ p1 218 _ (0,0) _ _ rfl rfl ((((HK.out.drew.set 0 _).set 1 _).set 2 _).set 3 _) underlying218 rfl (by kernel_rfl)) rfl ⟨Or.inl ⟨HE.out,rfl⟩,((((yL.out.drew).setCell (p:=⟨p1,0,none⟩) oa.out _).setCell (p:=⟨p1,1,none⟩) oa.out _).setCell (p:=⟨p1,2,none⟩) oa.out _).setCell (p:=⟨p1,3,none⟩) oa.out _⟩
     ·rw[<- HSV.out,hf] at hlk
      replace hlk:(Instr.lookup 82 (.map (some J.mb)) (au #[Z ag fr,Z ag t]) false).run prog v3.drew = .ok (ai (some ⟨q.sb,0,none⟩)) v3.drew:=hlk;obtain⟨vs,hS,_⟩:=pU (HI.out.more yL.out.drew) hq;have s0:=(nP hS.drew).1.1;have Y':q.es=W.x fr t/\q.ib=qQ W fr t:=by have:=HI.out.sh.sh q hq;rw[q1,q2] at this;exact this
      have od:=Lr HI.out.sh.lt fr t;cases hB:(vG (W.x fr t) en == g && (qQ W fr t).contains en)
      ·have HW:=af (Ah (B:=false) hS (by rw[Y'.2];omega) en g (by rw[Y'.1,Y'.2];exact hB))
       have HE:=af (show wv W t d=true by rw[HFF.out,ho,hB,HKT.out.1,HKT.out.2];simp);have HQ:=af (aen hq (aen q1 q2));clear ho hf hS Y' od hB hq q1 q2;unfold ptr at HW;go_wp2_with fail;refine bH HW.out ?_;go_wp2_with fail;go_region
       all_goals
        go_wp2_with fail;exact bodyPost_ret (aV rfl _ _ p1 218 _ (0,0) _ _ rfl rfl ((((HK.out.drew.drew.set 0 _).set 1 _).set 2 _).set 3 _) underlying218 rfl (by kernel_rfl)) rfl ⟨Or.inr ⟨HE.out,q,HQ.out.1,HQ.out.2.1,HQ.out.2.2,rfl⟩,((((yL.out.drew.drew).setCell (p:=⟨p1,0,none⟩) oa.out _).setCell (p:=⟨p1,1,none⟩) oa.out _).setCell (p:=⟨p1,2,none⟩) oa.out _).setCell (p:=⟨p1,3,none⟩) oa.out _⟩
      ·have HW:=af (Ah (B:=true) hS (by rw[Y'.2];omega) en g (by rw[Y'.1,Y'.2];exact hB))
       have HE:=af (show wv W t d=false by rw[HFF.out,hB];simp);clear ho hf hS Y' od hB hq q1 q2;unfold ptr at HW;go_wp2_with fail;refine bH HW.out ?_;go_wp2_with fail;exact bodyPost_ret (aV rfl _ _ p1 218 _ (0,0) _ _ rfl rfl ((((HK.out.drew.set 0 _).set 1 _).set 2 _).set 3 _) underlying218 rfl (by kernel_rfl)) rfl ⟨Or.inl ⟨HE.out,rfl⟩,((((yL.out.drew).setCell (p:=⟨p1,0,none⟩) oa.out _).setCell (p:=⟨p1,1,none⟩) oa.out _).setCell (p:=⟨p1,2,none⟩) oa.out _).setCell (p:=⟨p1,3,none⟩) oa.out _⟩
    ·have b2:(k != 2)=false:=by simp[yK]
     have bt:(tt != t)=true:=by simp[UN]
     have HE:=af (show wv W t d=false by rw[HFF.out];simp[UN]);clear yK UN;go_wp2_with fail;exact bodyPost_ret (aV rfl _ _ p1 218 _ (0,0) _ _ rfl rfl ((((HK.out.drew.set 0 _).set 1 _).set 2 _).set 3 _) underlying218 rfl (by kernel_rfl)) rfl ⟨Or.inl ⟨HE.out,rfl⟩,((((yL.out.drew).setCell (p:=⟨p1,0,none⟩) oa.out _).setCell (p:=⟨p1,1,none⟩) oa.out _).setCell (p:=⟨p1,2,none⟩) oa.out _).setCell (p:=⟨p1,3,none⟩) oa.out _⟩
   ·have b2:(k != 2)=true:=by simp[yK]
    have HE:=af (show wv W t d=false by rw[HFF.out];simp[yK]);clear yK;go_wp2_with fail;exact bodyPost_ret (aV rfl _ _ p1 218 _ (0,0) _ _ rfl rfl ((((HK.out.drew.set 0 _).set 1 _).set 2 _).set 3 _) underlying218 rfl (by kernel_rfl)) rfl ⟨Or.inl ⟨HE.out,rfl⟩,((((yL.out.drew).setCell (p:=⟨p1,0,none⟩) oa.out _).setCell (p:=⟨p1,1,none⟩) oa.out _).setCell (p:=⟨p1,2,none⟩) oa.out _).setCell (p:=⟨p1,3,none⟩) oa.out _⟩
end
section
variable {F0:List Nat}{w0 w w' w'':av}{T K:Int}{J:Wi}{ms:List Tm}{qs:List Sw}{W V:Ws}{ts vs:List Part}{i a b t d:Int}{τ:Wt}{q:Sw}{o:Op}{es':List En}{ib':List Int}{v':Value}
theorem JM (h:Sy F0 w0 (q.ps++vs) w)(hP:PT w' q.tb es')(ho:Only [q.tb] w w'):Sy F0 w0 ((⟨q.fr,q.rc,q.sb,q.tb,q.v,es',q.ib⟩:Sw).ps++vs) w':=by obtain⟨_,⟨_,rfl⟩,_,hk⟩:=h.at_ (i:=1) rfl;exact hk (PtR q.tb es') w' [q.tb] ⟨hP,rfl⟩ (Step.same ho)
theorem YL (h:Sy F0 w0 (q.ps++vs) w)(hT:Qu.Tl w' v' ib')(ho:Only (Qu.blks q.v) w w')(hn:∀ g,v'.ownBlock=some g->q.v.ownBlock=some g\/w.heap.size<=g):Sy F0 w0 ((⟨q.fr,q.rc,q.sb,q.tb,v',q.es,ib'⟩:Sw).ps++vs) (w'.setCell ⟨q.sb,1,none⟩ v'):=by obtain⟨_,⟨_,rfl⟩,_,hk⟩:=h.at_ (i:=2) rfl;have h2:=hk (InR v' ib') w' (Qu.blks v') ⟨hT,rfl⟩ ⟨ho,λg hg=>(hn g (Qu.aU.1 hg)).imp (λe=>Qu.aU.2 e) id⟩;exact h2.put (i:=0) rfl 1 v'
theorem TM (h:YJ J qs W)(hq:q ∈ qs)(e1:q.fr=a)(e2:q.rc=b):q.es=W.x a b/\q.ib=qQ W a b:=by have:=h.sh q hq;rw[e1,e2] at this;exact this
theorem wE {e:List En}{u v:Int}:(iq W a b e).x u v=if u=a/\v=b then e else W.x u v:=rfl
theorem nF (h:wC F0 w0 T K J ms qs W ts w)(hq:q ∈ qs)(e1:q.fr=a)(e2:q.rc=b):PT w q.tb (W.x a b) /\
  ∀ {w':av} {es':List En},PT w' q.tb es'->Only [q.tb] w w'->qd (iq W a b es')->PW F0 w0 T K J (iq W a b es') ts w'/\w'.cell? ⟨q.sb,0,none⟩=some (ai (some ⟨q.tb,0,none⟩)):=by
 obtain⟨vs,hS,dF⟩:=pU h hq;obtain⟨q1,q2⟩:=TM h.sh hq e1 e2;refine⟨q1 ▸ (nP hS).2.1,fun {w' es'} hP ho hl=>⟨dF (JM hS hP ho) rfl ?_ ?_ (λu v hne=>⟨?_,rfl⟩) hl,(nP (JM hS hP ho)).1.1⟩⟩
 ·rw[wE,if_pos ⟨e1,e2⟩]
 ·rw[q2,e1,e2];rfl
 ·rw[wE,if_neg (λe=>hne ⟨e.1.trans e1.symm,e.2.trans e2.symm⟩)]
theorem wC.drew (h:wC F0 w0 T K J ms qs W ts w):wC F0 w0 T K J ms qs W ts w.drew:=h.more (Below.drew (Below.refl _ _))
theorem Gi (h:wC F0 w0 T K J ms qs W ts w)(hq:q ∈ qs)(hb:aF w w'):w'.cell? ⟨q.sb,0,none⟩=some (ai (some ⟨q.tb,0,none⟩))/\w'.cell? ⟨q.sb,1,none⟩=some q.v:=by obtain⟨vs,hS,_⟩:=pU (h.more hb) hq;exact⟨(nP hS).1.1,(nP hS).1.2.1⟩
theorem pV {w:av}{b p i:Nat}(h:p≠b)(x y z:Value):(((w.setCell ⟨p,0,none⟩ x).setCell ⟨p,1,none⟩ y).setCell ⟨p,2,none⟩ z).cell? ⟨b,i,none⟩=w.cell? ⟨b,i,none⟩:=by
 unfold World.cell?;have h1:(((w.setCell ⟨p,0,none⟩ x).setCell ⟨p,1,none⟩ y).setCell ⟨p,2,none⟩ z).heap[b]?=w.heap[b]? :=(Below.heap_setCell _ _ _ b (λe=>h e.symm)).trans ((Below.heap_setCell _ _ _ b (λe=>h e.symm)).trans (Below.heap_setCell _ _ _ b (λe=>h e.symm)))
 simp only[h1]
theorem abM (h:wC F0 w0 T K J ms qs W ts w)(hq:q ∈ qs){g:Nat}{cs:List Value}(hb:bA w g 37 cs):g≠q.sb:=by obtain⟨vs,hS,_⟩:=pU h hq;have h1:bA w q.sb 155 [ptr q.tb,q.v]:=hS.blk (i:=0) rfl;rintro rfl;unfold bA at hb h1;rw[hb] at h1;simp only[Option.some.injEq,Obj.cells.injEq] at h1;exact absurd h1.2.1 (by decide)
theorem fO (e0:Int)(w:av):aG 35 #[Z ag e0] w (au #[Z ag e0,Z ag 0,Z .u64 0]) λw'=>aF w w':=jA e0 w
theorem TQ (h:PW F0 w0 T K J W ts w)(ho:o.ok)(hi:tn W o.t=some τ) :
  aG 97 #[ptr J.wb,o.val] w (Ln W o).val λw'=>PW F0 w0 T K J (FI W o) ts w':=by
 have hT:=(fW hi).2.2;obtain⟨v0,q0,v1,p,fS,jT,n_,hp,h1⟩:=dX h o;obtain⟨c0,c1,c2,c3,c4,c5⟩:=bO h1 (o:=o) (q:=q0) (by simp);have pX:=h1;obtain⟨ms,qs,hI⟩:=pX;have jI:=hI.cells.1.2.2;have hlk:=hI.drew.cells.2.2.2 o.t o.n ho.2.1 ho.2.2.2.2.1;rcases um (b:=o.n) hI.sh hT with ⟨hb,hf⟩ | ⟨hb,s,hs,e1,e2,hf⟩
 ·have q1:Ln W o=wrong 3:=by unfold Ln SD;rw[hb];rfl
  have q2:FI W o=W:=by unfold FI SD;rw[hb];rfl
  rw[q1,q2];rw[hf] at hlk;replace hlk:(Instr.lookup 82 (.map (some J.mb)) (au #[Z ag o.t,Z ag o.n]) false).run prog v1.drew = .ok (.pointer none) v1.drew:=hlk;have H1:=af h1.drew;unfold Op.val An.val wrong ptr;clear h h1 hI ho hi hb hf hT q1 q2;go_enter func97,ntmps97;go_wp2_with fail;go_region
  all_goals
   clear hlk;go_wp2_with fail;refine aP (jA 3 _) λw9 dI=>?_
   obtain⟨⟨⟨f0,f1,f2⟩,z0,z1,z2⟩,hA⟩:=eZ (H1.out.more dI);have HA:=af hA;clear dI hA H1 c0 c1 c2 c3 c4 c5;unfold wrong An.val;go_wp2_with fail;refine bw (HA.out _ _ _).1 rfl rfl rfl ⟨rfl,(HA.out _ _ _).2.drop⟩
 ·rw[hf] at hlk
  replace hlk:(Instr.lookup 82 (.map (some J.mb)) (au #[Z ag o.t,Z ag o.n]) false).run prog v1.drew = .ok (ai (some ⟨s.sb,0,none⟩)) v1.drew:=hlk;have H1:=af h1.drew;by_cases hm:0<=o.m/\o.m<=7
  ·have q0:SD W o=true:=by unfold SD;rw[hb];simp[hm]
   have q1:Ln W o=wrong (Fz (W.x o.t o.n) o.m):=by unfold Ln;rw[if_pos q0]
   have q2:FI W o=iq W o.t o.n (wo (W.x o.t o.n) o.m):=by unfold FI;rw[if_pos q0]
   rw[q1,q2];obtain⟨YM,dF⟩:=nF hI.drew.drew hs e1 e2;obtain⟨s0,_⟩:=Gi hI hs (Below.drew (Below.drew (Below.refl _ _)));have HR:=af (Jk YM o.m);have HNE:=af (abM hI hs h1.blk);have O8:=af (λ(w':av) (hP:PT w' s.tb (wo (W.x o.t o.n) o.m)) (ho:Only [s.tb] v1.drew.drew w')=>dF hP ho (hI.sh.lt.rv o.t o.n o.m));obtain⟨E,hE⟩:∃ E,Fz (W.x o.t o.n) o.m=E:=⟨_,rfl⟩
   rw[hE] at HR ⊢;obtain⟨V,hV⟩:∃ V,iq W o.t o.n (wo (W.x o.t o.n) o.m)=V:=⟨_,rfl⟩
   rw[hV] at O8 ⊢;have l1:¬ o.m<0:=by omega
   have l2:¬ 8<=o.m:=by omega
   unfold Op.val An.val wrong ptr;clear h h1 hI ho hi hb hf hT q0 q1 q2 YM dF hm hE hV H1;go_enter func97,ntmps97;go_wp2_with fail;go_region
   all_goals
    clear hlk;go_wp2_with fail
    go_region_held3 (λU=>U.cell? ⟨s.sb,0,none⟩=some (ai (some ⟨s.tb,0,none⟩))/\U.cell? ⟨q0,5,none⟩=some (Z ag o.m)) (first | exact⟨s0,c5⟩ | exact⟨m6,m5⟩ | exact⟨n6,n5⟩ | exact⟨r6 _ _ _,(bO (HA.out _ _ _).2 (o:=o) (q:=q0) (by simp)).2.2.2.2.2⟩)
     (first
      | (go_at_call 155;refine HR.out.mono ?_;rintro e w5 ⟨rfl,YN,UX⟩;obtain⟨h6,m6⟩:=O8.out w5 YN UX;obtain⟨m0,m1,m2,m3,m4,m5⟩:=bO h6 (o:=o) (q:=q0) (by simp);have H6:=af h6;clear h6 YN UX)
      | (go_at_call 35;refine aP (fO E _) λw6 iw=>?_;have h7:=H6.out.more iw;obtain⟨n0,n1,n2,n3,n4,n5⟩:=bO h7 (o:=o) (q:=q0) (by simp);have n6:=(iw.cell (p:=⟨s.sb,0,none⟩) (World.block_lt_of_cell? w5 ⟨s.sb,0,none⟩ m6)).trans m6;obtain⟨⟨⟨f0,f1,f2⟩,z0,z1,z2⟩,hA⟩:=eZ h7;have HA:=af hA;have r6:=λx y z=>(pV HNE.out x y z).trans n6;clear h7 hA iw))
    clear s0 c0 c1 c2 c3 c4 c5 m0 m1 m2 m3 m4 m5 m6 n0 n1 n2 n3 n4 n5 n6 r6 HR O8 H6;go_wp2_with fail;refine bw (HA.out _ _ _).1 rfl rfl rfl ⟨rfl,(HA.out _ _ _).2.drop⟩
  ·have q0:SD W o=false:=by unfold SD;rw[hb];simp;omega
   have q1:Ln W o=wrong 3:=by unfold Ln;rw[q0];rfl
   have q2:FI W o=W:=by unfold FI;rw[q0];rfl
   rw[q1,q2];unfold Op.val An.val wrong ptr;clear h h1 hI ho hi hb hf hT q0 q1 q2;by_cases l1:o.m<0
   ·clear hm
    go_enter func97,ntmps97;go_wp2_with fail;go_region
    all_goals
     clear hlk;go_wp2_with fail;refine aP (jA 3 _) λw9 dI=>?_
     obtain⟨⟨⟨f0,f1,f2⟩,z0,z1,z2⟩,hA⟩:=eZ (H1.out.more dI);have HA:=af hA;clear dI hA H1 c0 c1 c2 c3 c4 c5;unfold wrong An.val;go_wp2_with fail;refine bw (HA.out _ _ _).1 rfl rfl rfl ⟨rfl,(HA.out _ _ _).2.drop⟩
   ·have l2:8<=o.m:=by omega
    clear hm;go_enter func97,ntmps97;go_wp2_with fail;go_region
    all_goals
     clear hlk;go_wp2_with fail;refine aP (jA 3 _) λw9 dI=>?_
     obtain⟨⟨⟨f0,f1,f2⟩,z0,z1,z2⟩,hA⟩:=eZ (H1.out.more dI);have HA:=af hA;clear dI hA H1 c0 c1 c2 c3 c4 c5;unfold wrong An.val;go_wp2_with fail;refine bw (HA.out _ _ _).1 rfl rfl rfl ⟨rfl,(HA.out _ _ _).2.drop⟩
end
theorem Ϛ {l:List En}(h:Wf l)(i g:Int):aI (FA l i g):=by
 unfold FA;cases hx:k_ l i with
 | none=>show aI 0;unfold aI;omega
 | some x =>
  simp only;have:=(h.at_ hx).k;split
  ·unfold aI;omega
  ·unfold aI;omega
section
variable {F0:List Nat}{w0 w w' w'':av}{T K:Int}{J:Wi}{ms:List Tm}{qs:List Sw}{W V:Ws}{ts vs:List Part}{i a b t d:Int}{τ:Wt}{q:Sw}{o:Op}
theorem ϛ (h:kC W i=true):∃ z,tn W i=some z:=by
 cases hi:tn W i with
 | none=>rw[wy hi] at h;cases h
 | some z=>exact⟨z,rfl⟩
theorem Xg (h:PW F0 w0 T K J W ts w)(ho:o.ok)(hi:tn W o.t=some τ) :
  aG 100 #[ptr J.wb,o.val] w (NT W o).val λw'=>PW F0 w0 T K J (G1 W o) ts w':=by
 have hT:=(fW hi).2.2;obtain⟨v0,q0,v1,p,fS,jT,n_,hp,h1⟩:=dX h o;obtain⟨c0,c1,c2,c3,c4,c5⟩:=bO h1 (o:=o) (q:=q0) (by simp);obtain⟨ms,qs,hI⟩:=h1;have HF:=ol hI hT ho.2.2.1;have HI:=af hI;obtain⟨A0,hA0⟩:∃ A,NT W o=A:=⟨_,rfl⟩
 obtain⟨V0,hV0⟩:∃ V,G1 W o=V:=⟨_,rfl⟩
 rw[hA0,hV0];have YO:=af (aen hA0 hV0);unfold Op.val An.val ptr at *;have HF:=af HF;clear h hI ho hi hT hA0 hV0;go_enter func100,ntmps100;go_wp2_with fail;refine HF.out.mono ?_;rintro e w2 ⟨hf,bC⟩;rcases hf with ⟨Dq,rfl⟩ | ⟨Dq,s,hs,e1,e2,rfl⟩
 ·have q1:NT W o=wrong 4:=by unfold NT;rw[Dq];rfl
  have q2:G1 W o=W:=by unfold G1;rw[Dq];rfl
  have h2:PW F0 w0 T K J W (AB p::aQ q0 41 o.cells::ts) w2:=⟨ms,qs,HI.out.more bC⟩
  have h3:PW F0 w0 T K J W (AB p::aQ q0 41 o.cells::ts) (w2.alloc (aA #[Z ag 0,.pointer none,Z ag 0,Z ag 0] 218)):=(h2.box _ _).drop;have CN:=af (aen (YO.out.1.symm.trans q1) (YO.out.2.symm.trans q2));have H3:=af h3;clear bC Dq h2 h3 HF HI c0 c1 c2 c3 c4 c5 q1 q2;go_wp2_with fail;refine aP (fO 4 _) λw9 dI=>?_
  obtain⟨⟨⟨f0,f1,f2⟩,z0,z1,z2⟩,hA⟩:=eZ (H3.out.more dI);have HA:=af hA;clear dI hA H3;go_wp2_with fail;refine bodyPost_ret (results_cell_row rfl _ _ p 37 _ (0,0) _ rfl (HA.out _ _ _).1 underlying37 rfl (by kernel_rfl)) rfl ⟨by rw[CN.out.1];rfl,by rw[CN.out.2];exact(HA.out _ _ _).2.drop⟩
 ·have q1:NT W o=wrong (nY (W.x (iz o.w) o.t) (jY o.w) (iM o.w)):=by unfold NT;rw[if_pos Dq]
  have q2:G1 W o=iq W (iz o.w) o.t (xM (W.x (iz o.w) o.t) (jY o.w) (iM o.w)):=by unfold G1;rw[if_pos Dq]
  obtain⟨v3,p3,Y5,U5,OP,dj⟩:∃ v3 p3,w2.alloc (aA #[Z ag (iz o.w),ai (some ⟨s.tb,0,none⟩),Z ag (jY o.w),Z ag (iM o.w)] 218)=v3/\w2.heap.size=p3/\bA v3 p3 218 [Z ag (iz o.w),ai (some ⟨s.tb,0,none⟩),Z ag (jY o.w),Z ag (iM o.w)]/\aF w2 v3:=⟨_,_,rfl,rfl,bA.new _ _ _,(Below.refl _ _).alloc (aem _) _⟩
  have k1:=OP.cell (i:=1) rfl;have k2:=OP.cell (i:=2) rfl;have k3:=OP.cell (i:=3) rfl;have hI3:=(HI.out.more bC).more dj;obtain⟨YM,dF⟩:=nF hI3 hs e1 e2;have HC:=close_any YM (HI.out.sh.lt.wf _ _) (jY o.w) (iM o.w);have O8:=af (λ(w':av) (hP:PT w' s.tb (xM (W.x (iz o.w) o.t) (jY o.w) (iM o.w))) (ho:Only [s.tb] v3 w')=>(dF hP ho (HI.out.sh.lt.cl Dq)).1);obtain⟨E,hE⟩:∃ E,nY (W.x (iz o.w) o.t) (jY o.w) (iM o.w)=E:=⟨_,rfl⟩
  rw[hE] at HC q1;obtain⟨V,hV⟩:∃ V,iq W (iz o.w) o.t (xM (W.x (iz o.w) o.t) (jY o.w) (iM o.w))=V:=⟨_,rfl⟩
  rw[hV] at O8 q2;have CN:=af (aen (YO.out.1.symm.trans q1) (YO.out.2.symm.trans q2));clear YO q1 q2;generalize xM (W.x (iz o.w) o.t) (jY o.w) (iM o.w)=es at HC O8;generalize iz o.w=fr at *;generalize jY o.w=en at *;generalize iM o.w=g at *;have HC:=af HC;clear bC dj Dq OP hI3 YM dF HF HI c0 c1 c2 c3 c4 c5 hE hV hs e1 e2;go_wp2_with fail;refine HC.out.mono ?_;rintro e w5 ⟨rfl,YN,UX⟩;have H5:=af (O8.out w5 YN UX);clear YN UX HC O8 k1 k2 k3;go_wp2_with fail;refine aP (fO E _) λw9 dI=>?_
  obtain⟨⟨⟨f0,f1,f2⟩,z0,z1,z2⟩,hA⟩:=eZ (H5.out.more dI);have HA:=af hA;clear dI hA H5;go_wp2_with fail;refine bodyPost_ret (results_cell_row rfl _ _ p 37 _ (0,0) _ rfl (HA.out _ _ _).1 underlying37 rfl (by kernel_rfl)) rfl ⟨by rw[CN.out.1];rfl,by rw[CN.out.2];exact(HA.out _ _ _).2.drop⟩
theorem Ϝ (h:PW F0 w0 T K J W ts w)(aM:vH W)(ho:o.ok)(hi:tn W o.t=some τ) :
  aG 99 #[ptr J.wb,o.val] w (Lp W o).val λw'=>PW F0 w0 T (K+16) J W ts w':=by
 have hT:=(fW hi).2.2;obtain⟨v0,q0,v1,p,fS,jT,n_,hp,h1⟩:=dX h o;obtain⟨c0,c1,c2,c3,c4,c5⟩:=bO h1 (o:=o) (q:=q0) (by simp);obtain⟨ms,qs,hI⟩:=h1;have HF:=ol hI hT ho.2.2.1;have HI:=af hI;have sQ:=af (aen aM ho);obtain⟨A0,hA0⟩:∃ A,Lp W o=A:=⟨_,rfl⟩
 rw[hA0];have YO:=af hA0;unfold Op.val An.val ptr at *;have HF:=af HF;clear h hI ho hi hT aM hA0;go_enter func99,ntmps99;go_wp2_with fail;refine HF.out.mono ?_;rintro e w2 ⟨hf,bC⟩;rcases hf with ⟨Dq,rfl⟩ | ⟨Dq,s,hs,e1,e2,rfl⟩
 ·have q1:Lp W o=wrong 4:=by unfold Lp;rw[Dq];rfl
  have h2:PW F0 w0 T (K+16) J W (AB p::aQ q0 41 o.cells::ts) w2:=sE ⟨ms,qs,HI.out.more bC⟩ (by omega);have h3:PW F0 w0 T (K+16) J W (AB p::aQ q0 41 o.cells::ts) (w2.alloc (aA #[Z ag 0,.pointer none,Z ag 0,Z ag 0] 218)):=(h2.box _ _).drop;have CN:=af (YO.out.symm.trans q1);have H3:=af h3;clear bC Dq h2 h3 HF HI c0 c1 c2 c3 c4 c5 q1 sQ;go_wp2_with fail;refine aP (fO 4 _) λw9 dI=>?_
  obtain⟨⟨⟨f0,f1,f2⟩,z0,z1,z2⟩,hA⟩:=eZ (H3.out.more dI);have HA:=af hA;clear dI hA H3;go_wp2_with fail;refine bodyPost_ret (results_cell_row rfl _ _ p 37 _ (0,0) _ rfl (HA.out _ _ _).1 underlying37 rfl (by kernel_rfl)) rfl ⟨by rw[CN.out];rfl,(HA.out _ _ _).2.drop⟩
 ·obtain⟨z,hz⟩:=ϛ (oR (FK Dq).2.2.1).1
  have q1:Lp W o=if wq (W.x (iz o.w) o.t) (jY o.w) (iM o.w)=0 then lookA z.x z.s (FA (W.x (iz o.w) o.t) (jY o.w) (iM o.w)) (Jh (W.x (iz o.w) o.t) (jY o.w) (iM o.w)) o.n else wrong (wq (W.x (iz o.w) o.t) (jY o.w) (iM o.w)):=by unfold Lp;rw[if_pos Dq,hz]
  have hI2:=HI.out.more bC;have h2:PW F0 w0 T K J W (AB p::aQ q0 41 o.cells::ts) w2:=⟨ms,qs,hI2⟩
  obtain⟨v3,p3,Y5,U5,h3,dj⟩:∃ v3 p3,w2.alloc (aA #[Z ag (iz o.w),ai (some ⟨s.tb,0,none⟩),Z ag (jY o.w),Z ag (iM o.w)] 218)=v3/\w2.heap.size=p3/\PW F0 w0 T K J W (AB p::aQ p3 218 [Z ag (iz o.w),ai (some ⟨s.tb,0,none⟩),Z ag (jY o.w),Z ag (iM o.w)]::aQ q0 41 o.cells::ts) v3/\aF w2 v3 :=⟨_,_,rfl,rfl,(h2.box _ _).perm (List.Perm.swap _ _ _),(Below.refl _ _).alloc (aem _) _⟩
  have OP:=h3.mem (b:=p3) (t:=218) (cs:=[Z ag (iz o.w),ai (some ⟨s.tb,0,none⟩),Z ag (jY o.w),Z ag (iM o.w)]) (by simp);have k0:=OP.cell (i:=0) rfl;have k1:=OP.cell (i:=1) rfl;have k2:=OP.cell (i:=2) rfl;have k3:=OP.cell (i:=3) rfl;have hwf:=HI.out.sh.lt.wf (iz o.w) o.t;have HC:=rU (nF (hI2.more dj) hs e1 e2).1 (jY o.w) (iM o.w);have hla:=Ϛ hwf (jY o.w) (iM o.w);generalize FA (W.x (iz o.w) o.t) (jY o.w) (iM o.w)=a1 at *;generalize Jh (W.x (iz o.w) o.t) (jY o.w) (iM o.w)=a2 at *;generalize wq (W.x (iz o.w) o.t) (jY o.w) (iM o.w)=E at *;have abN:=af (YO.out.symm.trans q1);have HZ:=af (aen hz hla);have HC:=af HC;have H3:=af h3;clear bC dj Dq OP hI2 h2 h3 HF HI c0 c1 c2 c3 c4 c5 q1 hs e1 e2 hwf hz hla;by_cases hE:E=0
  ·have HAA:=af (show lookA z.x z.s a1 a2 o.n=A0 by rw[abN.out,if_pos hE])
   subst hE;generalize jY o.w=en at *;generalize iM o.w=g at *;go_wp2_with fail;refine aP HC.out λw5 dT=>?_
   have h5:=H3.out.more dT;have n0:=(h5.mem (b:=p3) (t:=218) (cs:=[Z ag (iz o.w),ai (some ⟨s.tb,0,none⟩),Z ag en,Z ag g]) (by simp)).cell (i:=0) rfl;obtain⟨_,_,_,_,n4,_⟩:=bO h5 (o:=o) (q:=q0) (by simp);have HT:=iD h5.drew HZ.out.1;have HL:=TF h5.drew sQ.out.1 HZ.out.1 a1 a2 o.n HZ.out.2;rw[HAA.out] at HL;unfold ptr An.val at *;have HT:=af HT;have HL:=af HL;clear dT h5 HC H3 k0 k1 k2 k3 HZ sQ HAA;go_wp2_with fail
   go_region_held3 (λU=>U.cell? ⟨p3,0,none⟩=some (Z ag (iz o.w))/\U.cell? ⟨q0,4,none⟩=some (Z ag o.n)) (first | exact⟨n0,n4⟩ | exact⟨m6,m4⟩ | exact⟨((HA.out _ _ _).2.mem (b:=p3) (t:=218) (cs:=[Z ag (iz o.w),ai (some ⟨s.tb,0,none⟩),Z ag en,Z ag g]) (by simp)).cell (i:=0) rfl,(bO (HA.out _ _ _).2 (o:=o) (q:=q0) (by simp)).2.2.2.2.1⟩)
    (first
     | (go_at_call 37;refine bH HT.out ?_)
     | (go_at_call 161;refine aP HL.out λw7 h7=>?_;obtain⟨m0,m1,m2,m3,m4,m5⟩:=bO h7 (o:=o) (q:=q0) (by simp);have m6:=(h7.mem (b:=p3) (t:=218) (cs:=[Z ag (iz o.w),ai (some ⟨s.tb,0,none⟩),Z ag en,Z ag g]) (by simp)).cell (i:=0) rfl;obtain⟨⟨⟨f0,f1,f2⟩,z0,z1,z2⟩,hA⟩:=eZ h7;have HA:=af hA;clear h7 hA))
   clear n0 n4 m0 m1 m2 m3 m4 m5 m6 HT HL;go_wp2_with fail;refine bodyPost_ret (results_cell_row rfl _ _ p 37 _ (0,0) _ rfl (HA.out _ _ _).1 underlying37 rfl (by kernel_rfl)) rfl ⟨rfl,(HA.out _ _ _).2.drop.drop⟩
  ·have CN:=af (show A0=wrong E by rw[abN.out,if_neg hE])
   have bE:(E != 0)=true:=by simp[hE]
   have H3':=af (sE (K':=K+16) H3.out (by omega));generalize jY o.w=en at *;generalize iM o.w=g at *;clear hE H3 HZ sQ;go_wp2_with fail;refine aP HC.out λw5 dT=>?_
   have H5:=af (H3'.out.more dT);clear dT HC H3' k0 k1 k2 k3;go_wp2_with fail;refine aP (fO E _) λw9 dI=>?_
   obtain⟨⟨⟨f0,f1,f2⟩,z0,z1,z2⟩,hA⟩:=eZ (H5.out.more dI);have HA:=af hA;clear dI hA H5;go_wp2_with fail;refine bodyPost_ret (results_cell_row rfl _ _ p 37 _ (0,0) _ rfl (HA.out _ _ _).1 underlying37 rfl (by kernel_rfl)) rfl ⟨by rw[CN.out];rfl,(HA.out _ _ _).2.drop.drop⟩
end
end Wl
end
end Go.Proofs.YtdhgpmndgcggfaaGreatDoor
