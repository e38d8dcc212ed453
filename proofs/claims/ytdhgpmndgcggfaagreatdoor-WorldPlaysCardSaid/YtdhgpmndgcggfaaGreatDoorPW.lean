/- The document -/
import Derived.Test.YtdhgpmndgcggfaaGreatDoorPY
import Derived.Test.YtdhgpmndgcggfaaGreatDoorQY
import Derived.Test.YtdhgpmndgcggfaaGreatDoorQB
set_option maxRecDepth 100000
set_option maxHeartbeats 12800000
namespace Go.Proofs.YtdhgpmndgcggfaaGreatDoor
open _root_.Go.Proofs.Tryz
open Lib renaming hid → af
open Value renaming int → Z, pointer → ai, slice → am, tuple → ao
open IntKind renaming i64 → ag
open Go renaming World → av, Value → az
open List renaming getElem?_eq_getElem → aD, take_length → aeF, eq_nil_of_length_eq_zero → aeW, mem_map → ae6, map_append → aff
open And renaming intro → aen
open Go.RowKit.Below renaming refl → aes
open Bool renaming and_eq_true → aez
open Or renaming inl → aeG, inr → aeH
open RowKit renaming intOf → aeI
open World renaming ownsRow_nil → aeP
open Nat renaming le_trans → afa
attribute [local go_sem ↓] Go.wp_at_zero Go.wp_at_succ
section
namespace Hp
open Go.RowKit Go.Maps
def G2 (u:az)(l:List Int):Part where
 on w F:=Qu.Tl w u l/\F=Qu.blks u
 only:=λ⟨h,e⟩ ho _ hS=>by subst e;exact⟨h.only ho (λg hg=>hS g (Qu.aU.2 hg)),rfl⟩
 lt:=λ⟨h,e⟩ g hg=>by subst e;exact h.lt g (Qu.aU.1 hg)
def FQ (J:mH)(c:Cs)(uc ug uw uf:az):List az:=[ai (some ⟨J.d,0,none⟩),uc,ug,.bool c.is,Z ag c.ch,Z ag c.un,uw,uf]
def Fm (c:Cs)(s:Hs)(vk uf:az)(fs:List Part):Prop:=(bK c s=true/\fs=[])\/(uf=vk/\c.fr=s.k/\fs=[])\/fs=[dx uf c.fr]
def gp (J:mH)(db:Nat)(c:Cs)(uc ug uw uf:az)(fs ts:List Part):List Part :=aQ db 213 (FQ J c uc ug uw uf)::G2 uc c.cu::G2 ug c.ge::dx uw c.wh::(fs++ts)
def DC (F0:List Nat)(w0:av)(J:mH)(x:Sh)(db:Nat)(c:Cs)(s:Hs)(ts:List Part)(w:av):Prop :=∃ vr vk vq uc ug uw uf fs,Fm c s vk uf fs/\Sy F0 w0 (dp J x s vr vk vq (gp J db c uc ug uw uf fs ts)) w
section
variable {F0:List Nat}{w0 w w':av}{ts fs:List Part}{J:mH}{x:Sh}{s:Hs}{vr vk vq uc ug uw uf:az}{db:Nat}{c:Cs}
theorem DC.more (h:DC F0 w0 J x db c s ts w)(hb:aF w w'):DC F0 w0 J x db c s ts w':=by obtain⟨vr,vk,vq,uc,ug,uw,uf,fs,h1,h2⟩:=h;exact⟨vr,vk,vq,uc,ug,uw,uf,fs,h1,h2.more hb⟩
theorem jg (h:Sy F0 w0 (dp J x s vr vk vq (gp J db c uc ug uw uf fs ts)) w):bA w db 213 (FQ J c uc ug uw uf):=h.blk (i:=5) rfl
theorem ce (h:Sy F0 w0 (dp J x s vr vk vq (gp J db c uc ug uw uf fs ts)) w):w.cell? ⟨db,0,none⟩=some (ai (some ⟨J.d,0,none⟩))/\w.cell? ⟨db,1,none⟩=some uc/\w.cell? ⟨db,2,none⟩=some ug/\w.cell? ⟨db,3,none⟩=some (.bool c.is)/\w.cell? ⟨db,4,none⟩=some (Z ag c.ch)/\w.cell? ⟨db,5,none⟩=some (Z ag c.un)/\w.cell? ⟨db,6,none⟩=some uw/\w.cell? ⟨db,7,none⟩=some uf :=⟨(jg h).cell rfl,(jg h).cell rfl,(jg h).cell rfl,(jg h).cell rfl,(jg h).cell rfl,(jg h).cell rfl,(jg h).cell rfl,(jg h).cell rfl⟩
theorem WC (h:Sy F0 w0 (dp J x s vr vk vq ts) w):Calls prog 90 #[ai (some ⟨J.d,0,none⟩)] w λe w'=>∃ db,e = .returned (ai (some ⟨db,0,none⟩))/\DC F0 w0 J x db Cs.init s ts w':=by have h1:=(h.add (aes _ _) (dx (am none 0 0) []) ⟨aeP _ _ _ _,rfl⟩ (by simp[Qu.blks,Value.ownBlock])).ins 5;have h2:=(h1.add (aes _ _) (G2 (am none 0 0) []) ⟨.inl ⟨rfl,rfl⟩,rfl⟩ (by simp[Qu.blks,Value.ownBlock])).ins 5;have h3:=(h2.add (aes _ _) (G2 (am none 0 0) []) ⟨.inl ⟨rfl,rfl⟩,rfl⟩ (by simp[Qu.blks,Value.ownBlock])).ins 5;have HS:=af ((h3.box #[ai (some ⟨J.d,0,none⟩),am none 0 0,am none 0 0,.bool false,Z ag 0,Z ag 0,am none 0 0,am none 0 0] 213).ins 5);clear h h1 h2 h3;go_enter func90,ntmps90;go_wp2_with fail;go_ret;exact⟨w.heap.size,rfl,vr,vk,vq,am none 0 0,am none 0 0,am none 0 0,am none 0 0,[],aeG ⟨rfl,rfl⟩,HS.out⟩
theorem Ci (h:Sy F0 w0 (dp J x s vr vk vq (gp J db c uc ug uw uf fs ts)) w):aG 231 #[ai (some ⟨db,0,none⟩)] w (.bool (bK c s)) λw'=>Sy F0 w0 (dp J x s vr vk vq (gp J db c uc ug uw uf fs ts)) w':=by
 obtain⟨c0,_,_,c3,c4,_⟩:=ce h;have d0:=(yQ h).1;have HS:=af h;clear h;cases hi:c.is
 ·have hst:bK c s=true:=by simp[bK,hi]
  rw[hi] at c3;rw[hst];go_enter func231,ntmps231;go_wp2_with fail;go_quiet (fail);go_wp2_with fail;go_ret;exact⟨rfl,HS.out.more (below_drewN (aes _ _) _)⟩
 ·rw[hi] at c3
  cases he:c.ch == s.ch
  ·have hst:bK c s=true:=by simp[bK,he]
   have hne:c.ch≠s.ch:=by simpa using he
   rw[hst];clear hi he hst;go_enter func231,ntmps231;go_wp2_with fail;go_quiet (fail);go_wp2_with fail;go_ret;exact⟨aN (bne_iff_ne.2 hne),HS.out.more (below_drewN (aes _ _) _)⟩
  ·have hst:bK c s=false:=by simp[bK,he,hi]
   have hne:c.ch=s.ch:=by simpa using he
   rw[hst];rw[hne] at c4;clear hi he hst hne;go_enter func231,ntmps231;go_wp2_with fail;go_quiet (fail);go_wp2_with fail;go_ret;exact⟨rfl,HS.out.more (below_drewN (aes _ _) _)⟩
end
section
variable {F0:List Nat}{w0 w w':av}{ts:List Part}{J:mH}{x:Sh}{s:Hs}{vr vk vq uc ug uw uf:az}{db:Nat}{c:Cs}
theorem WF {s:Hs}{j:Nat}{nd:Gr.Nd}(h:s.gr.nodes[j]?=some nd):(cM s).take (j+1)=(cM s).take j++[mQ s.ct nd.id]:=by unfold cM;rw[List.map_take.symm,List.map_take.symm,Gr.xp h,aff];rfl
theorem Jo {G:Gr.Gp}{c:List Int}:(Tr.j4 G c).length<=G.nodes.length:=by
 unfold Tr.j4;split
 ·exact Gr.Iz
 ·simp
theorem vh {G:Gr.Gp}{k c:List Int}:(Tr.dR G k c).length<=G.nodes.length:=by
 unfold Tr.dR;split
 ·unfold Tr.kP;exact afa (List.length_filter_le _ _) (Gr.lY _)
 ·simp
theorem YD (h:Sy F0 w0 (dp J x s vr vk vq (gp J db c uc ug uw uf [] ts)) w)(aM:Ok x s)(UG:s.all.length<=900) :
  aG 232 #[ai (some ⟨db,0,none⟩)] w (ao #[]) λw'=>DC F0 w0 J x db (BR c s) s ts w':=by
 obtain⟨i0,iE,gU,fZ,fR⟩:=info_parts Tryz.infoInt;have HG:=af (K7 h aM);have sQ:=af aM;have O4:=af aM.small;have X':=af (show ∀ z ∈ cM s,aI z from λz hz=>by
  unfold cM at hz;obtain⟨y,hy,rfl⟩:=ae6.1 hz;rw[qG] at hy;obtain⟨i,z,rfl,hi,_⟩:=iY hy;have h1:=aM.l1;have h2:=aM.l2;obtain⟨ct,q8⟩:∃ ct,s.ct[i]?=some ct:=⟨_,aD (by omega)⟩
  rw[jo q8];have:=aM.zM UG q8;unfold aI;omega)
 have OT:=af (show ∀ z ∈ s.k,aI z from λz hz=>by
  have:=aM.nW.2 z hz;unfold aI;omega)
 have HOU:=af (show ∀ n ∈ s.gr.nodes,n.out.length<=100000 from λn hn=>by
  unfold Hs.gr at hn;obtain⟨y,hy,rfl⟩:=ae6.1 hn;have:=V2 aM (fF.1 (by rw[qG];exact hy));show (s.outs y).length<=100000;omega)
 obtain⟨c0,_⟩:=ce h;clear h aM;go_enter func232,ntmps232;go_wp2_with fail;refine HG.out.mono ?_;rintro e w1 ⟨nv,rfl,h1⟩;clear c0 HG;obtain⟨q,hq⟩:∃ q,w1.heap.size=q:=⟨_,rfl⟩
 obtain⟨An,mn,cn,eN⟩:=ET h1 (j:=5) rfl;subst eN;obtain⟨Ar,mr,cr,eN⟩:=bI (cV h1).1;subst eN;have h2:=h1.mZ #[am An mn cn,am Ar mr cr] 68;rw[hq] at h2;obtain⟨v0,fS⟩:∃ v0,w1.alloc (.cells #[am An mn cn,am Ar mr cr] 68)=v0:=⟨_,rfl⟩
 rw[fS] at h2;have hga:=vc h2 (i:=6) (j:=2) (G:=s.gr) rfl rfl O4.out;have acI:=hga;obtain⟨An',cn',Ar',cr',eg,hnl,_,UH⟩:=acI;simp only[Value.agg.injEq,Array.mk.injEq,List.cons.injEq,Value.slice.injEq,and_true] at eg;obtain⟨⟨rfl,rfl,rfl⟩,rfl,rfl,rfl⟩:=eg;have HGA:=af hga;have HND:=af UH;have H2:=af h2;clear h1 h2 hga UH;go_wp2_with fail
 go_loopw [3,4] (λu i wr=>∃ (j:Nat) (l:List Int),j<=s.gr.nodes.length/\i = Z ag j/\l.length=j/\Aside (l=(cM s).take j)/\Aside (wr.ownsRow v0.heap.size 3 1 u l.length (vals l))/\Aside (aF v0 wr)) (λ_ i _=>s.gr.nodes.length - (aeI i).toNat)
 case atStart=>exact⟨0,[],by omega,rfl,rfl,rfl,aeP _ _ _ _,aes _ _⟩
 case round =>
  obtain⟨j,l,hj,rfl,C9,hL,ho,HB⟩:=hrel;have hS:=H2.out.more HB.out;have k0:=(hS.blk (i:=5) rfl).cell (i:=0) rfl;have k1:=(hS.blk (i:=5) rfl).cell (i:=1) rfl;have d0:=(hS.blk (i:=7) rfl).cell (i:=0) rfl;by_cases hlt:j<s.gr.nodes.length
  ·obtain⟨nd,j0⟩:∃ z,s.gr.nodes[j]?=some z:=⟨_,aD hlt⟩
   obtain⟨_,b,o,D,dc,rfl,ic,c1,_⟩:=HND.out j nd j0;have n1:=(HB.out.cell (p:=⟨b,_,none⟩) ic).trans c1;obtain⟨i,hii,hix⟩:∃ i:Nat,nd.id=i/\i<x.n:=by
    have hm:nd.id ∈ Gr.ids s.gr:=by unfold Gr.ids;exact List.mem_map_of_mem (List.mem_of_getElem? j0)
    rw[qG] at hm;obtain⟨i,z,e,hi,_⟩:=iY hm;have:=sQ.out.l1;exact⟨i,e,by omega⟩
   obtain⟨g,gc,ct,g1,g2,g3,g4,g5,_⟩:=lx hS hix;have g0:=(lw hS)
   have jQ:(j:Int)<s.gr.nodes.length:=by omega
   have aeg:(i:Int)<x.n:=by omega
   have HT:Aside ((cM s).take (j+1)=l++[ct]):=by show _=_;rw[WF j0,hL.out,hii,jo g4]
   rw[hii] at n1;clear j0 c1 g4 hii hL;have ia:=HB.out.size;have adf:=O4.out.many;go_wp2_with fail
   go_region_law (first
    | (refine step_append_lies _ (by rfl) _ _ _ (by rfl) v0.heap.size 3 i0 (Z ag 0) 1 8 underlying63 iE gU fZ fR rfl (by omega) _ _ _ (by rfl) (ho.out.alloc _) ⟨wr.heap.size,0,none⟩ 1 1 [Z ag ct] (by rfl) rfl (World.news_of_block (B:=wr.heap.size) (cs:=#[Z ag ct]) (heap_alloc_new wr _)) (by simp[Value.oneCell']) (by omega) (by unfold maxLen;omega) (by first | omega | (simp;omega)) (by first | omega | (simp;omega)) (wr.heap.size+1) (by simp) ?_;intro g' cap' w2 fY bF hat XL))
   all_goals
    have bC:aF v0 w2:=(below_drewN (HB.out.alloc ia (.cells #[Z ag ct] 3)) 1).grown bF (by simp;omega) (λg hg=>(ho.out.lt _ hg).1);have f_:Aside (aF v0 w2):=bC;have HO2:Aside (w2.ownsRow v0.heap.size 3 1 (am (some ⟨g',0,none⟩) (l.length+1) cap') (l++[ct]).length (vals (l++[ct]))):=by show World.ownsRow _ _ _ _ _ _ _;rw[vals_snoc];simpa using fY
    clear bC fY bF hat XL;go_wp2_with fail;go_roundw
    case rel=>exact⟨j+1,l++[ct],hlt,by go_num,by simp[C9],HT.out.symm,by have h:=HO2;rw[C9] at h;exact h,f_⟩
    case measure=>simp[aeI];omega
  ·have:j=s.gr.nodes.length:=by omega
   subst this;have jQ:¬ ((s.gr.nodes.length:Int)<s.gr.nodes.length):=by omega
   rw[List.take_of_length_le (by unfold cM;rw[List.length_map,Gr.kO];exact Nat.le_refl _)] at hL;have hl:=hL.out;subst hl;have ji:=X'.out;obtain⟨Ak,mk,ck,eN⟩:=bI (cV hS).2.1;subst eN;have kk:=(Di hS).1;have LZ:=HGA.out.below HB.out;have HGY:=af (Tr.ua s.gr s.k wr.drew _ _ (LZ.below (below_drewN (aes _ _) 1)) (Gr.Rd.mU (cV hS.drew).2.1 OT.out) O4.out.many);have hS0:=hS.drew;have k2:=(hS0.blk (i:=5) rfl).cell (i:=0) rfl;have k3:=(hS0.blk (i:=5) rfl).cell (i:=1) rfl;have d2:=(hS0.blk (i:=7) rfl).cell (i:=0) rfl;have kk2:=(Di hS0).1;have HS:=af hS;have zf:=af ho.out;clear hS hS0 kk LZ ho;go_wp2_with fail
   go_region_held3 (λW=>W.cell? ⟨q,0,none⟩=some (am An s.gr.nodes.length cn)/\W.cell? ⟨q,1,none⟩=some (am Ar s.gr.roots.length cr)/\W.cell? ⟨db,0,none⟩=some (ai (some ⟨J.d,0,none⟩))/\W.cell? ⟨J.d,8,none⟩=some (am Ak mk ck)) (first | exact⟨k2,k3,d2,kk2⟩ | exact⟨m2,m3,m4,m5⟩)
    (first | (go_at_call 266;refine HGY.out.mono ?_;rintro e w5 ⟨ug2,rfl,hu5,dT⟩;have h5:=(HS.out.drew).more dT;have m2:=(h5.blk (i:=5) rfl).cell (i:=0) rfl;have m3:=(h5.blk (i:=5) rfl).cell (i:=1) rfl;have m4:=(h5.blk (i:=7) rfl).cell (i:=0) rfl;have m5:=(Di h5).1))
   have LW:Own w5 u3 (cM s):=(Own.of zf.out).1.below (aH (below_drewN (aes _ _) 1) dT);have abB:=HGA.out.below (aH (below_drewN HB.out 1) dT);have HWH:=af (Tr.Jn s.gr (cM s) s.k w5.drew _ _ _ (abB.below (below_drewN (aes _ _) 1)) (Gr.Rd.mU (LW.below (below_drewN (aes _ _) 1)) ji) (Gr.Rd.mU (cV h5.drew).2.1 OT.out) O4.out.many HOU.out);have hgf:=(Own.of hu5).1;obtain⟨Ag,cg,rfl,adB,adC,_⟩:=hgf.form;have H5:=af h5;have m6:w5.drew.cell? ⟨q,0,none⟩=some (am An s.gr.nodes.length cn):=m2;clear k0 k1 d0 k2 k3 d2 kk2 h5 hu5 hgf LW abB HGY;go_wp2_with fail
   go_region_held3 (λW=>W.cell? ⟨q,0,none⟩=some (am An s.gr.nodes.length cn)/\W.cell? ⟨q,1,none⟩=some (am Ar s.gr.roots.length cr)/\W.cell? ⟨db,0,none⟩=some (ai (some ⟨J.d,0,none⟩))/\W.cell? ⟨J.d,8,none⟩=some (am Ak mk ck)) (first | exact⟨m2,m3,m4,m5⟩ | exact⟨l2,l3,l4,l5⟩)
    (first | (go_at_call 267;refine HWH.out.mono ?_;rintro e w6 ⟨uw2,rfl,hu6,iw⟩;have h6:=(H5.out.drew).more iw;have l2:=(h6.blk (i:=5) rfl).cell (i:=0) rfl;have l3:=(h6.blk (i:=5) rfl).cell (i:=1) rfl;have l4:=(h6.blk (i:=7) rfl).cell (i:=0) rfl;have l5:=(Di h6).1))
   obtain⟨Aw,cw,rfl,_⟩:=(Own.of hu6).1.form;have h7:=((((H5.out.drew.add iw (dx (am Aw (Tr.dR s.gr (cM s) s.k).length cw) (Tr.dR s.gr (cM s) s.k)) ⟨(Own.of hu6).1,rfl⟩ (λg hg=>(Own.of hu6).2 g (Qu.aU.1 hg))).ins 10).del 11).del 5).del 5;have h8:Sy F0 w0 (dp J x s (am Ar s.gr.roots.length cr) (am Ak mk ck) vq (aQ db 213 (FQ J c uc ug uw uf)::G2 uc c.cu::G2 ug c.ge::dx (am Aw (Tr.dR s.gr (cM s) s.k).length cw) (Tr.dR s.gr (cM s) s.k)::ts)) w6:=h7;have b0:=(h8.blk (i:=5) rfl).cell (i:=0) rfl;have f3:=(h8.blk (i:=5) rfl).free 3;have f4:=(h8.blk (i:=5) rfl).free 4;have f5:=(h8.blk (i:=5) rfl).free 5;have f6:=(h8.blk (i:=5) rfl).free 6;have f7:=(h8.blk (i:=5) rfl).free 7;have b3:=(h8.blk (i:=5) rfl).cell (i:=3) rfl;have b4:=(h8.blk (i:=5) rfl).cell (i:=4) rfl;have b5:=(h8.blk (i:=5) rfl).cell (i:=5) rfl;have b6:=(h8.blk (i:=5) rfl).cell (i:=6) rfl;have b7:=(h8.blk (i:=5) rfl).cell (i:=7) rfl;have b8:=(yQ h8).1;have b9:=(Di h8).1;have P7:=af (((((h8.put (i:=5) rfl 3 (.bool true)).put (i:=5) rfl 4 (Z ag s.ch)).put (i:=5) rfl 5 (Z ag (3 * (Tr.j4 s.gr s.k).length - (Tr.dR s.gr (cM s) s.k).length))).put (i:=5) rfl 6 (am Aw (Tr.dR s.gr (cM s) s.k).length cw)).put (i:=5) rfl 7 (am Ak mk ck));have wG:(Tr.j4 s.gr s.k).length<=1000:=afa Jo O4.out.many;have hwl:(Tr.dR s.gr (cM s) s.k).length<=1000:=afa vh O4.out.many;clear h6 h7 h8 hu6 iw m2 m3 m4 m5 l2 l3 l4 l5 HWH H5;go_wp2_with fail
   go_end0
   exact⟨rfl,_,_,_,uc,ug,_,_,[],aeH (aeG ⟨rfl,rfl,rfl⟩),P7.out⟩
end
end Hp
end
section
namespace Rt
open Go.RowKit Go.Maps
section
variable {w:av}{l:List Int}{u:az}
theorem Jp (x:Int)(hi:Inc l)(hu:Own w u l) :
  Calls prog 170 #[u,Z ag x] w λe w'=>∃ v,e = .returned (ao #[v,Z ag (eC l x)])/\Own w' v (ef l x)/\aF w w'/\((v=u/\ef l x=l)\/∀ g,v.ownBlock=some g->w.heap.size<=g):=by
 have HU:=af hu;have hh:=rD l x w u hu;obtain⟨A,cap,rfl,_,eQ,qf,ha⟩:=hu.form;have HA:=af ha;have hlen:=hi.len;obtain⟨i0,iE,gU,fZ,fR⟩:=info_parts Tryz.infoInt;clear hu ha;by_cases h0:x<0
 ·have ho:okB x=false:=by simp[okB];omega
  rw[show eC l x=1 by simp[eC,ho],oC ho];go_enter func170,ntmps170;go_wp2_with fail;go_ret2;exact⟨_,rfl,HU.out,aes _ _,by first | exact aeG ⟨rfl,rfl⟩ | simp⟩
 by_cases h1:191<x
 ·have ho:okB x=false:=by simp[okB];omega
  rw[show eC l x=1 by simp[eC,ho],oC ho];go_enter func170,ntmps170;go_wp2_with fail;go_ret2;exact⟨_,rfl,HU.out,aes _ _,by first | exact aeG ⟨rfl,rfl⟩ | simp⟩
 have ho:okB x=true:=iU (by omega) (by omega);cases hb:hasB l x
 ·rw[hb] at hh
  rw[show eC l x=9 by simp[eC,ho,hb],pH hb];go_enter func170,ntmps170
  go_wp2_with (go_at_call 78;refine bH hh ?_)
  go_ret2;exact⟨_,rfl,HU.out,aes _ _,by first | exact aeG ⟨rfl,rfl⟩ | simp⟩
 ·rw[hb] at hh
  have hE:eC l x=0:=by simp[eC,ho,hb]
  rw[hE,tw ho];have HD:=af (Bd x l []);clear hE;go_enter func170,ntmps170
  go_wp2_with (go_at_call 78;refine bH hh ?_)
  clear hh
  go_loopw [7,8] (λo i wr=>∃ (j:Nat) (L:List Int),j<=l.length/\L.length<=j/\i = Z ag j/\wr.ownsRow w.heap.size 3 1 o L.length (vals L)/\Qs x L (l.drop j)=aZ x l/\aF w wr) (λ_ i _=>l.length - (intOf i).toNat)
  case atStart=>exact⟨0,[],by omega,by simp,rfl,aeP _ _ _ _,by have:=HD.out;simpa using this,aes _ _⟩
  case round =>
   obtain⟨j,L,hj,hL,rfl,aX,hgo,cJ⟩:=hrel;have HO:=af aX;have HB:=af cJ;have hsz:=cJ.size;by_cases hlt:j<l.length
   ·obtain⟨z,hz⟩:∃ z,l[j]?=some z:=⟨_,aD hlt⟩
    obtain⟨g,rfl,hg⟩:=HA.out j z hz;have c1:wr.cell? ⟨g,j,none⟩=some (Z ag z):=(cJ.cell (p:=⟨g,j,none⟩) (World.block_lt_of_cell? w ⟨g,j,none⟩ hg)).trans hg;rw[drop_at hz] at hgo;unfold Qs at hgo;by_cases he:z=x
    ·subst he
     rw[if_pos rfl] at hgo;have HG:=af hgo;clear hz hg aX cJ hgo;go_wp2_with fail;go_roundw
     case rel=>exact⟨j+1,L,by omega,by omega,by go_num,HO.out,HG.out,HB.out⟩
     case measure=>simp[intOf];omega
    ·rw[if_neg he] at hgo
     have HG:=af hgo;clear hz hg aX cJ hgo
     go_wp2_with (at_builtin;refine wpList_append_own _ rfl _ _ 63 rfl w.heap.size 3 i0 (Z ag 0) 1 8 underlying63 iE gU fZ fR rfl (by decide) _ _ _ rfl (HO.out.alloc _) ⟨wr.heap.size,0,none⟩ 1 1 [Z ag z] rfl rfl ?k01 ?Zz ?ZA ?k04 ?ZB ?_)
     case k01 =>
      intro q u hq
      match q,hq with
      | 0,hq=>simp at hq;subst hq;simp[Addr.add]
     case Zz=>first | rfl | (intro u hu;simp at hu;subst hu;rfl)
     case ZA=>unfold maxLen;omega
     case k04=>omega
     case ZB=>first | omega | (simp;omega)
     intro v' w1 cY bF _;obtain⟨R1,R2⟩:=Own.step (by simp) HO.out HB.out cY bF;clear cY bF c1;go_wp2_with fail;go_roundw
     case rel=>exact⟨j+1,L++[z],by omega,by simp;omega,by go_num,R1,HG.out,R2⟩
     case measure=>simp[intOf];omega
   ·have:j=l.length:=by omega
    subst this;rw[List.drop_length] at hgo;unfold Qs at hgo;subst hgo;go_wp2_with fail;go_ret2;exact⟨_,rfl,(Own.of aX).1,cJ,aeH λg hg=>(Own.of aX).2 g hg⟩
end
end Rt
end
section
namespace Hp
open Go.RowKit Go.Maps
section
variable {F0:List Nat}{w0 w w':av}{ts:List Part}{J:mH}{x:Sh}{s t:Hs}{vr vk vq u:az}
def Kp (F0:List Nat)(w0:av)(J:mH)(x:Sh)(l:List Int)(t:Hs)(vr vk vq:az)(ts:List Part)(w:av):Prop :=(t.k=l/\Sy F0 w0 (dp J x t vr vk vq ts) w)\/∃ yC,Sy F0 w0 (dp J x t vr yC vq (dx vk l::ts)) w
theorem N1 {u:az}{l:List Int}(h:Sy F0 w0 (dp J x s vr vk vq ts) w)(aM:Ok x s)(hu:∃ A cap,u = am A l.length cap/\l.length<=9223372036854775807)
  (hat:∀ (W:av) (t:Hs),Kp F0 w0 J x s.k t vr vk vq ts W->Own W u l) :
  aG 233 #[ai (some ⟨J.d,0,none⟩),u] w (ao #[]) λw'=>Kp F0 w0 J x s.k (uN s l) vr vk vq ts w':=by
 obtain⟨A,cap,rfl,C9⟩:=hu;have XJ:=af hat;have sQ:=af (λk=>(aM.fg (l.take k)).1.nW);have h0:Kp F0 w0 J x s.k (uN s (l.take 0)) vr vk vq ts w:=aeG ⟨rfl,h⟩;clear aM hat h;go_enter func233,ntmps233;go_wp2_with fail
 go_loopw [4] (λc wr=>∃ (k:Nat),k<=l.length/\c = Z ag k/\Kp F0 w0 J x s.k (uN s (l.take k)) vr vk vq ts wr) (λc _=>l.length - (aeI c).toNat)
 case atStart=>exact⟨0,by omega,rfl,h0⟩
 case round =>
  obtain⟨k,hk,rfl,hS⟩:=hrel;clear h0;by_cases hlt:k<l.length
  ·obtain⟨c,hc⟩:∃ c,l[k]?=some c:=⟨_,aD hlt⟩
   obtain⟨K,hK⟩:∃ K,(uN s (l.take k)).k=K:=⟨_,rfl⟩
   have rS:=sQ.out k;rw[hK] at rS;have HE:=af (rR rS c);have HT:=af (KX hc s.k);have e:uN s (l.take (k+1))={ uN s (l.take k) with k:=Rt.aZ c K }:=by rw[<- hK];unfold uN;rw[HT.out]
   have HEQ:=af e;have SY:=af (λ(W:av) (t:Hs) (hW:Kp F0 w0 J x s.k t vr vk vq ts W)=>show ∃ g,A=some ⟨g,0,none⟩/\W.cell? ⟨g,k,none⟩=some (Z ag c) by
    obtain⟨A',cap',G7,_,_,_,hat⟩:=(XJ.out W t hW).form;obtain⟨rfl,rfl⟩:A=A'/\cap=cap':=by simpa using G7
    exact hat k c hc)
   clear hc e;obtain⟨g,rfl,hg⟩:=SY.out _ _ hS;have jQ:(k:Int)<l.length:=by omega
   rcases hS with ⟨hks,hS⟩ | ⟨yC,hS⟩
   ·rw[hK] at hks
    subst hks;obtain⟨Ak,mk,ck,eN⟩:=bI (cV hS).2.1;subst eN;have c0:=(Di hS).1;have G9:=af (Rt.Jp c rS (show Own wr.drew (am Ak mk ck) s.k from hK ▸ (cV hS.drew).2.1));have HS:=af hS.drew;clear rS hS;go_wp2_with fail
    go_region_held3 (λW=>W.cell? ⟨J.d,8,none⟩=some (am Ak mk ck)/\W.cell? ⟨g,k,none⟩=some (Z ag c)) (first | exact⟨c0,hg⟩ | exact⟨g0,g1⟩)
     (first | (go_at_call 170;refine G9.out.mono ?_;rw[HE.out];rintro e w3 ⟨v,rfl,hv,dj,L6⟩;have h3:=HS.out.more dj;have g0:=(Di h3).1;have g1:w3.cell? ⟨g,k,none⟩=some (Z ag c):=(by obtain⟨g',e,qW⟩:=SY.out w3 _ (aeG ⟨hK,h3⟩);obtain rfl:g=g':=(by simpa using e);exact qW)))
    obtain⟨A6,m6,c6,eN⟩:=bI hv;subst eN;have k8:=(Di h3).2;have H7:Aside (Kp F0 w0 J x s.k (uN s (l.take (k+1))) vr (am Ak mk ck) vq ts (w3.setCell ⟨J.d,8,none⟩ (am A6 m6 c6))):=by
     show Kp _ _ _ _ _ _ _ _ _ _ _;rw[HEQ.out];rcases L6 with ⟨e1,e2⟩ | hn4
     ·rw[e1,e2]
      refine aeG ⟨rfl,?_⟩;have h4:=h3.Q';rw[<- hK] at *;exact h4
     ·refine aeH ⟨am A6 m6 c6,?_⟩
      have h4:=(HS.out.add dj (dx (am A6 m6 c6) (Rt.aZ c s.k)) ⟨hv,rfl⟩ (λg hg=>hn4 g (Qu.aU.1 hg))).ins 3;have h5:Sy F0 w0 (qI J x { uN s (l.take k) with k:=Rt.aZ c s.k } vr (am Ak mk ck) vq vr (am A6 m6 c6) vq (dx (am Ak mk ck) s.k::ts)) w3:=by
       have hp:[dx vr s.r,dx (am A6 m6 c6) (Rt.aZ c s.k),dx (am Ak mk ck) (uN s (l.take k)).k,dx vq s.q].Perm [dx vr s.r,dx (am A6 m6 c6) (Rt.aZ c s.k),dx vq s.q,dx (am Ak mk ck) s.k]:=by rw[hK];exact((List.Perm.swap _ _ _).cons _).cons _
       exact h4.perm (((hp.append_right ts).cons _).cons _)
      exact h5.Q'
    clear c0 hg g0 g1 h3 hv dj L6 HS G9;go_wp2_with fail;go_roundw
    case rel=>exact⟨k+1,hlt,by go_num,H7.out⟩
    case measure=>simp[aeI];omega
   ·obtain⟨Ak,mk,ck,eN⟩:=bI (cV hS).2.1
    subst eN;have c0:=(Di hS).1;have G9:=af (Rt.qB c rS (show Own wr.drew (am Ak mk ck) K from hK ▸ (cV hS.drew).2.1));have HS:=af hS.drew;clear rS hS;go_wp2_with fail
    go_region_held3 (λW=>W.cell? ⟨J.d,8,none⟩=some (am Ak mk ck)/\W.cell? ⟨g,k,none⟩=some (Z ag c)) (first | exact⟨c0,hg⟩ | exact⟨g0,g1⟩)
     (first | (go_at_call 170;refine G9.out.mono ?_;rw[HE.out];rintro e w3 ⟨v,rfl,hv,dj,L6⟩;have h3o:=HS.out.more dj;have h3:=HS.out.ZS dj hv L6;have g0:=(Di h3).1;have g1:w3.cell? ⟨g,k,none⟩=some (Z ag c):=(by obtain⟨g',e,qW⟩:=SY.out w3 _ (aeH ⟨_,h3o⟩);obtain rfl:g=g':=(by simpa using e);exact qW)))
    obtain⟨A6,m6,c6,eN⟩:=bI hv;subst eN;have k8:=(Di h3).2;have H7:Aside (Kp F0 w0 J x s.k (uN s (l.take (k+1))) vr vk vq ts (w3.setCell ⟨J.d,8,none⟩ (am A6 m6 c6))):=by show Kp _ _ _ _ _ _ _ _ _ _ _;rw[HEQ.out];exact aeH ⟨_,h3.Q'⟩
    clear c0 hg g0 g1 h3 h3o hv dj L6 HS G9;go_wp2_with fail;go_roundw
    case rel=>exact⟨k+1,hlt,by go_num,H7.out⟩
    case measure=>simp[aeI];omega
  ·have:k=l.length:=by omega
   subst this;rw[aeF] at hS;have jQ:¬ ((l.length:Int)<l.length):=by omega
   go_wp2_with fail
   go_end0
   exact⟨rfl,hS⟩
end
section
variable {F0:List Nat}{w0 w w':av}{rs ts fs:List Part}{J:mH}{x:Sh}{s s' t:Hs}{vr vk vq uc ug uw uf u u':az}{db i hb:Nat}{c c':Cs}{l l':List Int}{pc:Pc}{cs:List St}{p:Nat->List Int}{ct:List Int}{vs:List (List Vl)}
theorem oV (h:Sy F0 w0 rs w)(hi:nth rs i=some (G2 u l)):Qu.Tl w u l:=by obtain⟨F,⟨h1,_⟩,_⟩:=h.at_ hi;exact h1
theorem Ly (h:Sy F0 w0 rs w)(hi:nth rs i=some (G2 u l))(hu:Qu.Tl w' u' l')(ho:Only (Qu.blks u) w w')(hn:∀ g,u'.ownBlock=some g->u.ownBlock=some g\/w.heap.size<=g):Sy F0 w0 (Hp.put rs i (G2 u' l')) w':=by obtain⟨F,⟨h1,rfl⟩,_,hk⟩:=h.at_ hi;exact hk _ _ (Qu.blks u') ⟨hu,rfl⟩ ⟨ho,λg hg=>(hn g (Qu.aU.1 hg)).imp Qu.aU.2 id⟩
theorem LA {g o n cap:Nat}{z:Int}(h:Sy F0 w0 rs w)(hi:nth rs i=some (G2 (am (some ⟨g,o,none⟩) n cap) (z::l)))(hu:Qu.Tl w u l)(hb:u.ownBlock=some g):Sy F0 w0 (Hp.put rs i (G2 u l)) w :=Ly h hi hu (Only.refl _ _) (λk hk=>aeG (by rw[hb] at hk;exact hk))
theorem Fm.to (h:Fm c s vk uf fs)(hk:s'.k=s.k)(hf:c'.fr=c.fr)(hs:bK c s=true->bK c' s'=true):Fm c' s' vk uf fs:=by
 rcases h with ⟨h1,h2⟩ | ⟨h1,h2,h3⟩ | h
 ·exact aeG ⟨hs h1,h2⟩
 ·exact aeH (aeG ⟨h1,by rw[hf,hk,h2],h3⟩)
 ·exact aeH (aeH (by rw[hf];exact h))
theorem CR.up (h:CR x c pc s)(hc:s.ch<=s'.ch)(hs:bK c s=true):bK c s'=true:=by
 cases hr:pc.rd with
 | none=>simp[bK,h.no hr]
 | some r =>
  obtain⟨h1,h2,h3,_⟩:=h.so r hr;have h4:c.ch≠s.ch:=by intro e;simp[bK,h1,e] at hs
  have h5:c.ch≠s'.ch:=by omega
  simp[bK,h5]
theorem CR.gone (h:CR x c pc s)(hc:s.ch<s'.ch):bK c s'=true:=by
 cases hr:pc.rd with
 | none=>simp[bK,h.no hr]
 | some r =>
  obtain⟨h1,h2,h3,_⟩:=h.so r hr;have h5:c.ch≠s'.ch:=by omega
  simp[bK,h5]
theorem sd (hf:Fm c s vk uf fs)(h:Sy F0 w0 (dp J x s vr vk vq (gp J db c uc ug uw uf fs ts)) w):Sy F0 w0 (dp J x s vr vk vq (gp J db c uc ug uw uf [] ts)) w:=by
 rcases hf with ⟨_,rfl⟩ | ⟨_,_,rfl⟩ | rfl
 ·exact h
 ·exact h
 ·exact h.del 9
theorem YE (h:Sy F0 w0 rs w)(hi:nth rs i=some (VK db hb x cs p ct vs))(n:Int):aT 112 #[ai (some ⟨hb,0,none⟩),Z ag n] w (Z ag (bL cs n)):=by obtain⟨F,⟨gb,ib,u,uc,uv,R,pl,hD,hs,rfl⟩,_⟩:=h.at_ hi;have:=DF n hD.rf;rw[Ku] at this;exact this
theorem SZ {b:Int}(hn:b<=0\/Qu.eD s.q=false):lO x b.toNat s=s/\nN x b.toNat s=0:=by
 obtain⟨m,hm⟩:∃ m,b.toNat=m:=⟨_,rfl⟩
 rw[hm];cases m with
 | zero=>exact⟨rfl,rfl⟩
 | succ m =>
  have hb:=hn.resolve_left (by omega);unfold lO nN;rw[hb];exact⟨rfl,rfl⟩
theorem S0 (aM:Ok x s)(h0:0<=s.ch)(h1:s.ch<=4611686018427380000)(hq:s.all.length<=900){b:Int}(hn:¬ (b<=0\/Qu.eD s.q=false)):s.ch<(lO x b.toNat s).ch:=by
 rw[not_or] at hn;obtain⟨m,hm⟩:∃ m,b.toNat=m+1:=⟨b.toNat - 1,by omega⟩
 have hb:Qu.eD s.q=true:=by simpa using hn.2
 rw[hm];unfold lO;rw[if_pos hb];have h2:=aM.one hb;have h3:(eK x s).ch=s.ch+1:=by rw[BQ,ly h0 (by omega)]
 obtain⟨k,_,e,_⟩:=h2.1.RA m (by omega) (by omega);omega
theorem yV (h:Sy F0 w0 (dp J x s vr vk vq ts) w)(b:Int)(hb:b<=9223372036854775807)(hq:s.all.length<=900)(hn:b<=0\/Qu.eD s.q=false) :
  aG 120 #[ai (some ⟨J.d,0,none⟩),Z ag b] w (Z ag 0) λw'=>O2 F0 w0 J x vk s ts w':=by
 by_cases hneg:b<=0
 ·have hng:¬ (0<b):=by omega
  clear hq hneg hn;go_enter func120,ntmps120;go_wp2_with fail
  go_loopw [5,6] (λd c wr=>wr=w/\c = Z ag b/\d = Z ag 0) (λ_ _ _=>0)
  case atStart=>exact⟨rfl,rfl,rfl⟩
  case round =>obtain⟨rfl,rfl,rfl⟩:=hrel;go_wp2_with fail;go_ret;exact⟨rfl,_,_,h⟩
 ·have hp:=hn.resolve_left hneg
  have hpos:0<b:=by omega
  have HN:=af (EP h (BN hq) hp);clear hq hneg hn hp;go_enter func120,ntmps120;go_wp2_with fail
  go_loopw [5,6] (λd c wr=>wr=w/\c = Z ag b/\d = Z ag 0) (λ_ _ _=>0)
  case atStart=>exact⟨rfl,rfl,rfl⟩
  case round =>obtain⟨rfl,rfl,rfl⟩:=hrel;go_wp2_with fail;refine HN.out.mono ?_;rintro e w2 ⟨rfl,_,_,h2⟩;clear HN h;go_wp2_with fail;go_ret;exact⟨rfl,_,_,h2⟩
theorem acJ (aM:Ok x s)(a:jv)(h6:(a.k % 9 == 6)=false)(h8:(a.k % 9 == 8)=false):(zN x s a).k=s.k:=by
 unfold zN;rw[h6,h8];split
 ·exact(aa9 s [] a.c).2
 split
 ·exact(abb s [] a.c).2
 split
 ·exact(abd s [] a.c a.n a.v).2
 simp only[Bool.false_eq_true,if_false];split
 ·by_cases hl:kh x s a.c=0
  ·obtain⟨i,z,e,hi,hz,ht⟩:=qF aM hl
   exact(aM.RB (n:=a.c) (by rw[e,fE hz,ht])).2.1
  ·unfold nV
   rw[if_neg hl]
 ·exact(aa8 s [] a.n).2
end
end Hp
end
section
namespace Hp
open Go.RowKit

section
variable {x:Sh}{s:Hs}{c:Cs}{pc:Pc}
theorem CR.abC (h:CR x c pc s){r:Rn}(hr:j7 pc s=some r):1<=(da c s).un/\(da c s).un<=3000/\(da c s).wh.length<=1000/\(∀ z ∈ (da c s).wh,aI z)/\bK (da c s) s=false:=by
 obtain⟨k0,k1,k2,k3,k4,k5,k6,k7,k8,k9,k10⟩:=h.cur hr;have n1:=k1.more h.ok;rw[if_pos k2] at n1;have hm:=h.ok.small.many;have u1:nh s r.k<=3000:=by unfold nh;have h1:=Gr.lY (G:=s.gr) r.k;have h2:=Gr.lY (G:=s.gr) (Tr.nL s.gr (cM s) (Gr.bp s.gr r.k));omega
 refine⟨by omega,by omega,by rw[k9];exact afa vh hm,λz hz=>?_,by unfold bK;rw[k6,k7];simp⟩;rw[k9] at hz;have ku:z ∈ Gr.ids s.gr:=by
  unfold Tr.dR at hz;split at hz
  ·unfold Tr.kP at hz
   exact Gr.pL (List.mem_filter.1 hz).1
  ·simp at hz
 obtain⟨i,y,e,hi,_⟩:=h.ok.jG (fF.1 ku);have:=(x.count h.ok.may).2;unfold aI;omega
theorem CR.round (h:CR x c pc s)(hp:pc.cu=[])(hq:Qu.eD s.q=false){r:Rn}(hr:j7 pc s=some r) :
  kq c s=true/\kr c s=0/\eP c s=(if (da c s).un - 1=0 then NF (da c s) s else { da c s with un:=(da c s).un - 1 })/\eE x c s=(if (da c s).un - 1=0 then uN s (da c s).fr else s)/\c.cu=[]/\(bK c s && s.k.isEmpty)=false:=by
 have e1:c.cu=[]:=by rw[h.cu,hp];rfl
 obtain⟨k0,_⟩:=h.cur hr;refine⟨by unfold kq;rw[e1,hq,k0];rfl,by unfold kr;rw[e1,hq];rfl,by unfold eP;rw[e1,hq,k0];rfl,by unfold eE;rw[e1,hq,k0];rfl,e1,k0⟩
theorem CR.stuck (h:CR x c pc s)(hp:pc.cu=[])(hq:Qu.eD s.q=false)(hr:j7 pc s=none) :
  kq c s=false/\kr c s=0/\eP c s={ c with is:=false }/\eE x c s=s/\c.cu=[]/\bK c s=true/\s.k=[]:=by
 have e1:c.cu=[]:=by rw[h.cu,hp];rfl
 have h1:=(h.stop hp hq hr).1;have h2:(bK c s && s.k.isEmpty)=true:=by unfold kq at h1;rw[e1,hq] at h1;simpa using h1
 have h3:=h2;simp only[aez,List.isEmpty_iff] at h3;exact⟨h1,by unfold kr;rw[e1,hq];rfl,by unfold eP;rw[e1,hq,h2];rfl,by unfold eE;rw[e1,hq,h2];rfl,e1,h3.1,h3.2⟩
end
end Hp
end
section
namespace Hp
open Go.RowKit Go.Maps
section
variable {F0:List Nat}{w0 w w':av}{rs ts fs:List Part}{J:mH}{x:Sh}{s s' t:Hs}{vr vk vq uc ug uw uf u u':az}{db i:Nat}{c c':Cs}{l l':List Int}{pc:Pc}
theorem l_ {g o m cap:Nat}{z:Int}(h:Sy F0 w0 rs w)(hi:nth rs i=some (G2 (am (some ⟨g,o,none⟩) m cap) (z::l))):w.cell? ⟨g,o,none⟩=some (Z ag z):=by
 rcases (oV h hi).form with ⟨e,_⟩ | ⟨g',o',cap',e,_,_,_,hc⟩
 ·cases e
 ·simp only[Value.slice.injEq,Option.some.injEq,Addr.mk.injEq,and_true] at e
  obtain⟨⟨rfl,rfl⟩,_,_⟩:=e;simpa using hc 0 z rfl
theorem zX {g o m cap:Nat}(_:m+1<=cap)(_:cap<=9223372036854775807):∃ A',sliced (some ⟨g,o,none⟩) 1 (m+1) cap 1 = am A' m (cap - 1)/\∀ W,(Instr.slice 63 (am (some ⟨g,o,none⟩) (m+1) cap) (some (Z ag 1)) none none).run prog W = .ok (am A' m (cap - 1)) W:=by
 obtain⟨A',e'⟩:=Qu.oD (some ⟨g,o,none⟩) 1 (m+1) cap 1;simp only[Nat.add_sub_cancel] at e';refine⟨A',e',λW=>?_⟩;rw[run_slice_l W 63 _ _ _ underlying63 ag 1 (by omega) (by omega)];have hs:(sizeOf (prog.elem 63)).run prog W = .ok 1 W:=by kernel_rfl
 rw[hs];show Result.ok (sliced (some ⟨g,o,none⟩) 1 (m+1) cap 1) W=_;rw[e']
theorem Cm {n g:Int}{cs gs:List Int}{is:Bool}{ch un:Int}{wh fr:List Int}{g1 o1 cap1 g2 o2 cap2:Nat}{A1 A2:Option Addr}(h:Sy F0 w0 (dp J x s vr vk vq (gp J db ⟨n::cs,g::gs,is,ch,un,wh,fr⟩ (am (some ⟨g1,o1,none⟩) (cs.length+1) cap1) (am (some ⟨g2,o2,none⟩) (gs.length+1) cap2) uw uf fs ts)) w)
  (f1:sliced (some ⟨g1,o1,none⟩) 1 (cs.length+1) cap1 1 = am A1 cs.length (cap1 - 1)) (f2:sliced (some ⟨g2,o2,none⟩) 1 (gs.length+1) cap2 1 = am A2 gs.length (cap2 - 1)) :
  Sy F0 w0 (dp J x s vr vk vq (gp J db ⟨cs,gs,is,ch,un,wh,fr⟩ (am A1 cs.length (cap1 - 1)) (am A2 gs.length (cap2 - 1)) uw uf fs ts)) ((w.setCell ⟨db,1,none⟩ (am A1 cs.length (cap1 - 1))).setCell ⟨db,2,none⟩ (am A2 gs.length (cap2 - 1))):=by
 have r1:=(oV h (i:=6) rfl).rest;have b1:=Qu.mS (g:=g1) (o:=o1) (n:=cs.length+1) (cap:=cap1);rw[f1] at r1 b1;have h2:=(LA h (i:=6) rfl r1 b1).put (i:=5) rfl 1 (am A1 cs.length (cap1 - 1));have r2:=(oV h2 (i:=7) rfl).rest;have b2:=Qu.mS (g:=g2) (o:=o2) (n:=gs.length+1) (cap:=cap2);rw[f2] at r2 b2;exact(LA h2 (i:=7) rfl r2 b2).put (i:=5) rfl 2 (am A2 gs.length (cap2 - 1))
theorem Η {n g:Int}{cs gs:List Int}{is:Bool}{ch un:Int}{wh fr:List Int}(h:Sy F0 w0 (dp J x s vr vk vq (gp J db ⟨n::cs,g::gs,is,ch,un,wh,fr⟩ uc ug uw uf fs ts)) w)(aM:Ok x s)(hq:s.all.length<=900) :
  aG 179 #[ai (some ⟨db,0,none⟩)] w (ao #[Z ag 0,.bool true]) λw'=>∃ IV IW uc' YF,Sy F0 w0 (dp J x (if vB s (n,g)=true then nV x s n else s) IV vk IW (gp J db ⟨cs,gs,is,ch,un,wh,fr⟩ uc' YF uw uf fs ts)) w':=by
 obtain⟨s',hs'⟩:∃ s',(if vB s (n,g)=true then nV x s n else s)=s':=⟨_,rfl⟩
 rw[hs'];have HS1:=af (show vB s (n,g)=true->s'=nV x s n from λe=>by rw[<- hs',if_pos e]);have HS0:=af (show vB s (n,g)=false->s'=s from λe=>by rw[<- hs',if_neg (by rw[e];simp)]);clear hs';rcases (oV h (i:=6) rfl).form with ⟨_,e⟩ | ⟨g1,o1,cap1,rfl,a1,a2,a3,_⟩
 ·cases e
 rcases (oV h (i:=7) rfl).form with ⟨_,e⟩ | ⟨g2,o2,cap2,rfl,b1,b2,b3,_⟩
 ·cases e
 simp only[List.length_cons] at h a1 b1;have a2':cap1<=9223372036854775807:=by unfold maxLen at a2;omega
 have b2':cap2<=9223372036854775807:=by unfold maxLen at b2;omega
 obtain⟨A1,f1,aaq⟩:=zX (g:=g1) (o:=o1) a1 a2';obtain⟨A2,f2,aeh⟩:=zX (g:=g2) (o:=o2) b1 b2';have l0:(0:Int)<(cs.length+1:Nat):=by omega
 have d1:=l_ h (i:=6) rfl;obtain⟨c0,c1,c2,_⟩:=ce h;have e0:=lw h;have HF:=af (aen f1 f2);have sQ:=af aM;have HQ:=af hq;have HH2:=af h;obtain⟨G,hG⟩:∃ G,bL s.cs n=G:=⟨_,rfl⟩
 obtain⟨C,hC⟩:∃ C,mQ s.ct n=C:=⟨_,rfl⟩
 obtain⟨B,hB⟩:∃ B,aS s.cs n=B:=⟨_,rfl⟩
 obtain⟨E,hE⟩:∃ E,yu s.cs n=E:=⟨_,rfl⟩
 have HG:=af (aen hG (aen hC (aen hB hE)));have η:=af (show vB s (n,g)=(B && G == g) by unfold vB;rw[hB,hG]);have Pe:=h.mZ #[Z ag 0,Z ag 0,.bool false] 113;obtain⟨gz,hgz⟩:∃ g,w.heap.size=g:=⟨_,rfl⟩
 rw[hgz] at Pe;have HB:=af Pe;clear h Pe hG hC hB hE aM hq f1 f2 a1 a2 a3 b1 b2 b3 a2' b2';go_enter func179,ntmps179;go_wp2_with fail
 go_cut [4,5] (λs4 s5 wx=>∃ gy,s4 = ai (some ⟨gy,0,none⟩)/\s5 = Z ag E/\Sy F0 w0 (dp J x s vr vk vq (aQ gy 113 [Z ag G,Z ag C,.bool B]::gp J db ⟨n::cs,g::gs,is,ch,un,wh,fr⟩ (am (some ⟨g1,o1,none⟩) (cs.length+1) cap1) (am (some ⟨g2,o2,none⟩) (gs.length+1) cap2) uw uf fs ts)) wx)
 case first =>
  as_aux_lemma =>
   go_region_held3 (λW=>W.cell? ⟨db,0,none⟩=some (ai (some ⟨J.d,0,none⟩))/\W.cell? ⟨J.d,5,none⟩=some (ai (some ⟨J.c,0,none⟩))/\W.cell? ⟨db,1,none⟩=some (am (some ⟨g1,o1,none⟩) (cs.length+1) cap1)/\W.cell? ⟨g1,o1,none⟩=some (Z ag n)) (first | exact⟨c0,e0,c1,d1⟩ | exact⟨m0,m1,m2,m3⟩ | exact⟨a_ _ c0,a_ _ e0,a_ _ c1,a_ _ d1⟩ | exact⟨a_ _ m0,a_ _ m1,a_ _ m2,a_ _ m3⟩ | exact⟨k0,k1,k2,k3⟩)
    (first
     | (go_at_call 60;refine aP (tG HH2.out.drew (i:=1) rfl n HG.out.1 HG.out.2.1 HG.out.2.2.1 HG.out.2.2.2) λyE h14=>?_;have m0:=(ce h14).1;have m1:=lw h14;have m2:=(ce h14).2.1;have m3:=l_ h14 (i:=6) rfl;obtain⟨gy,Jc⟩:∃ g,yE.heap.size=g:=⟨_,rfl⟩;have h15:=h14.mZ #[Z ag G,Z ag C,.bool B] 113;rw[Jc] at h15;have yF:=af h15;clear h15)
     | (go_at_call 60;refine aP (tG HB.out.drew (i:=1) rfl n HG.out.1 HG.out.2.1 HG.out.2.2.1 HG.out.2.2.2) λyE h14=>?_;have m0:=(h14.blk (i:=6) rfl).cell (i:=0) rfl;have m1:=lw h14;have m2:=(h14.blk (i:=6) rfl).cell (i:=1) rfl;have m3:=l_ h14 (i:=7) rfl;have n0:=(h14.blk (i:=5) rfl).cell (i:=0) rfl;have n1:=(h14.blk (i:=5) rfl).cell (i:=1) rfl;have n2:=(h14.blk (i:=5) rfl).cell (i:=2) rfl;have n3:=(h14.blk (i:=5) rfl).free 0;have n4:=(h14.blk (i:=5) rfl).free 1;have n5:=(h14.blk (i:=5) rfl).free 2;have yF:=af (((h14.put (i:=5) rfl 0 (Z ag G)).put (i:=5) rfl 1 (Z ag C)).put (i:=5) rfl 2 (.bool B));have k0:=(yF.out.blk (i:=6) rfl).cell (i:=0) rfl;have k1:=(yF.out.blk (i:=0) rfl).cell (i:=5) rfl;have k2:=(yF.out.blk (i:=6) rfl).cell (i:=1) rfl;have k3:=l_ yF.out (i:=7) rfl;obtain⟨gy,Jc⟩:∃ g,g=gz:=⟨_,rfl⟩;subst Jc))
   all_goals (go_wp2_with fail;go_meet;exact⟨gy,rfl,rfl,yF.out⟩)
 case rest =>
  obtain⟨gy,rfl,rfl,h15⟩:=hcut;clear c0 c1 c2 d1 e0 HH2 HB;have z0:wc.cell? ⟨gy,0,none⟩=some (Z ag G):=(h15.blk (i:=5) rfl).cell (i:=0) rfl;have z2:wc.cell? ⟨gy,2,none⟩=some (.bool B):=(h15.blk (i:=5) rfl).cell (i:=2) rfl;have y0:wc.cell? ⟨db,2,none⟩=some (am (some ⟨g2,o2,none⟩) (gs.length+1) cap2):=(h15.blk (i:=6) rfl).cell (i:=2) rfl;have y1:=l_ h15 (i:=8) rfl;cases B
  ·have HE9:=af (HS0.out (by rw[η.out];rfl))
   clear HS1 sQ HQ;have H16:=af h15.fQ;clear h15;go_wp2_with fail;go_quiet (fail);clear z0 z2 y0 y1;have hW:=H16.out.drewN nq;generalize wc.drewN nq=wt at *;have c1:=(ce hW).2.1;have c2:=(ce hW).2.2.1;have k1:=(jg hW).free 1;have k2:=(jg hW).free 2;have HW:=af (Cm hW HF.out.1 HF.out.2);clear hW;go_wp2_with fail;go_ret2;exact⟨rfl,_,_,_,_,by rw[HE9.out];exact HW.out⟩
  ·cases hgp:(G == g)
   ·have HE9:=af (HS0.out (by rw[η.out,hgp];rfl))
    clear HS1 sQ HQ;have H16:=af h15.fQ;clear h15;go_wp2_with fail;go_quiet (fail);clear z0 z2 y0 y1;have hW:=H16.out.drewN nq;generalize wc.drewN nq=wt at *;have c1:=(ce hW).2.1;have c2:=(ce hW).2.2.1;have k1:=(jg hW).free 1;have k2:=(jg hW).free 2;have HW:=af (Cm hW HF.out.1 HF.out.2);clear hW;go_wp2_with fail;go_ret2;exact⟨rfl,_,_,_,_,by rw[HE9.out];exact HW.out⟩
   ·have HY:=af (HS1.out (by rw[η.out,hgp];rfl))
    have H16:=af h15.fQ;clear h15 HS0;go_wp2_with fail;go_quiet (fail);clear z0 z2 y0 y1;have hW:=H16.out.drewN nq;generalize wc.drewN nq=wt at *;have qg:=hW.drew;have c0:=(ce qg).1;have c1:=(ce qg).2.1;have d1:=l_ qg (i:=6) rfl;have HC:=af (aaY qg sQ.out n HQ.out rfl);clear hW qg;go_wp2_with fail
    go_still_tail 10,(by kernel_rfl)
    go_wp2_with fail;refine HC.out.mono ?_;rintro e w17 ⟨rfl,IV,IW,hW⟩;rw[<- HY.out] at hW;clear HC c0 c1 d1;have c1:=(ce hW).2.1;have c2:=(ce hW).2.2.1;have k1:=(jg hW).free 1;have k2:=(jg hW).free 2;have HW:=af (Cm hW HF.out.1 HF.out.2);clear hW;go_wp2_with fail;go_ret2;exact⟨rfl,_,_,_,_,HW.out⟩
theorem sg (h:Qu.Tl w u l):∃ A cap,u = am A l.length cap:=by
 rcases h.form with ⟨rfl,rfl⟩ | ⟨g,o,cap,rfl,_⟩
 ·exact⟨_,_,rfl⟩
 ·exact⟨_,_,rfl⟩
theorem Θ (h:Sy F0 w0 rs w)(hi:nth rs i=some (dx u l)):Sy F0 w0 (Hp.put rs i (G2 u l)) w:=by obtain⟨F,⟨h1,rfl⟩,_,hk⟩:=h.at_ hi;exact hk _ _ (Qu.blks u) ⟨(Qu.xl h1).1,rfl⟩ (Step.same (Only.refl _ _))
theorem S1 (h:Sy F0 w0 (dp J x s vr vk vq (gp J db c uc ug uw uf fs ts)) w)(aM:Ok x s)(hq:s.all.length<=900)(hc:c.cu=[])(hb:Qu.eD s.q=true) :
  aG 179 #[ai (some ⟨db,0,none⟩)] w (ao #[Z ag (if sP s=true then 1 else 0),.bool true]) λw'=>Dy F0 w0 J x (eK x s) (gp J db c uc ug uw uf fs ts) w':=by
 obtain⟨D,hD⟩:∃ D:Int,(if sP s=true then 1 else 0)=D:=⟨_,rfl⟩
 rw[hD];have e1:lO x (1:Int).toNat s=eK x s:=by show lO x 1 s=_;unfold lO;rw[if_pos hb];rfl
 have e2:nN x (1:Int).toNat s=D:=by show nN x 1 s=_;unfold nN;rw[if_pos hb,hD];simp[nN]
 have HC:=K0 h aM 1 (by omega) hq;rw[e1,e2] at HC;have HC:=af HC;obtain⟨A1,cap1,e⟩:=sg (oV h (i:=6) rfl);rw[hc] at e;obtain⟨A2,cap2,e',_⟩:=(cV h).2.2.form;obtain⟨N,hN⟩:∃ N:Nat,s.q.length=N+1:=by
  cases hs:s.q with
  | nil=>rw[hs] at hb;cases hb
  | cons a r=>exact⟨r.length,rfl⟩
 rw[hN] at e';subst e e';obtain⟨c0,c1,_⟩:=ce h;have e5:=(O0 h).1;have hpos:(0:Int)<(N+1:Nat):=by omega
 clear e1 e2 hD hN aM hq hc hb h;go_enter func179,ntmps179;go_wp2_with fail;refine aP HC.out λw1 h1=>?_
 clear c0 c1 e5 HC;go_wp2_with fail;go_ret2;exact⟨rfl,h1⟩
theorem WG (h:Sy F0 w0 (dp J x s vr vk vq (gp J db c uc ug uw uf fs ts)) w)(hc:c.cu=[])(jT:s.q=[])(hst:bK c s=true)(LX:s.k=[]) :
  aG 179 #[ai (some ⟨db,0,none⟩)] w (ao #[Z ag 0,.bool false]) λw'=>Sy F0 w0 (dp J x s vr vk vq (gp J db { c with is:=false } uc ug uw uf fs ts)) w':=by
 have HT:=Ci h;rw[hst] at HT;have HT:=af HT;obtain⟨A1,cap1,e⟩:=sg (oV h (i:=6) rfl);rw[hc] at e;obtain⟨A2,cap2,e',_⟩:=(cV h).2.2.form;rw[jT] at e';obtain⟨A3,cap3,e3,_⟩:=(cV h).2.1.form;rw[LX] at e3;subst e e' e3;obtain⟨c0,c1,_⟩:=ce h;have e5:=(O0 h).1;clear hst h;go_enter func179,ntmps179;go_wp2_with fail;refine aP HT.out λw1 h1=>?_
 clear c0 c1 e5 HT;have c0:=(ce h1).1;have e4:=(Di h1).1;have c3:=(ce h1).2.2.2.1;have f3:=(jg h1).free 3;have H2:=af (h1.put (i:=5) rfl 3 (.bool false));clear h1;go_wp2_with fail;go_ret2;exact⟨rfl,H2.out⟩
theorem abD (h:Sy F0 w0 (dp J x s vr vk vq (gp J db c uc ug uw uf fs ts)) w)(hf:Fm c s vk uf fs)(aM:Ok x s)(hq:s.all.length<=900)(hc:c.cu=[])(jT:s.q=[])(hk:(bK c s && s.k.isEmpty)=false)
  (h1:1<=(da c s).un) (h2:(da c s).un<=3000) (h3:¬ (da c s).un - 1=0) :
  aG 179 #[ai (some ⟨db,0,none⟩)] w (ao #[Z ag 0,.bool true]) λw'=>DC F0 w0 J x db { da c s with un:=(da c s).un - 1 } s ts w':=by
 have HT:=Ci h;obtain⟨A1,cap1,e⟩:=sg (oV h (i:=6) rfl);rw[hc] at e;obtain⟨A2,cap2,e',_⟩:=(cV h).2.2.form;rw[jT] at e';obtain⟨A3,cap3,e3,_⟩:=(cV h).2.1.form;have HF:=af hf;have HO:=af (aen aM hq);obtain⟨c0,c1,_⟩:=ce h;have e5:=(O0 h).1;rw[e] at c1;rw[e'] at e5;cases hst:bK c s
 case' false =>
  have gV:da c s=c:=by unfold da;rw[hst];rfl
  rw[gV] at h1 h2 h3 ⊢;rw[hst] at HT;have HT:=af HT;clear hst gV hk aM hq hf h jT HO;obtain⟨d,rfl⟩:∃ d,d=c:=⟨c,rfl⟩
  go_enter func179,ntmps179;go_wp2_with fail;refine aP HT.out λwt hS=>?_
  clear c0 c1 e5 HT e e' e3
 case' true =>
  have gV:da c s=BR c s:=by unfold da;rw[hst];rfl
  rw[gV] at h1 h2 h3 ⊢;rw[hst] at HT hk;have hkn:((s.k.length:Int) == 0)=false:=by
   have hk':s.k≠[]:=by simpa using hk
   have:s.k.length≠0:=λe=>hk' (aeW e)
   simp;omega
  obtain⟨d,hd⟩:∃ d,BR c s=d:=⟨_,rfl⟩
  rw[hd] at h1 h2 h3 ⊢;have HD:=af hd;have HT:=af HT;clear hst gV hk aM hq hf h jT hd;go_enter func179,ntmps179;go_wp2_with fail;refine aP HT.out λw1 h4=>?_
  clear c0 c1 e5 HT;have c0:=(ce h4).1;have e4:=(Di h4).1;rw[e3] at e4;have HB:=af (YD (sd HF.out h4) HO.out.1 HO.out.2);clear h4 HF HO;go_wp2_with fail;refine HB.out.mono ?_;rw[HD.out];rintro e wt ⟨rfl,vr,vk,vq,uc,ug,uw,uf,fs,hf,hS⟩;have HF:=af hf;clear c0 e4 HB hkn HD hf e e' e3
 all_goals
  have c5:=(ce hS).2.2.2.2.2.1;have f5:=(jg hS).free 5;have HE:=af (hS.put (i:=5) rfl 5 (Z ag (d.un - 1)));have HFM:=af (HF.out.to (c':={ d with un:=d.un - 1 }) (s':=s) rfl rfl (λe=>e));have hne:(d.un - 1 == 0)=false:=by simpa using h3
  clear hS HF h3;go_wp2_with fail;go_ret2;exact⟨rfl,vr,vk,vq,uc,ug,uw,uf,fs,HFM.out,HE.out⟩
end
section
variable {F0:List Nat}{w0 w w':av}{rs ts fs:List Part}{J:mH}{x:Sh}{s s' t:Hs}{vr vk vq uc ug uw uf u u' v3:az}{db i:Nat}{c c' d:Cs}{l l':List Int}{pc:Pc}{cu ge wh fr:List Int}{is:Bool}{ch un:Int}
theorem Jq (h:Sy F0 w0 (dp J x s vr vk vq (dx v3 wh::gp J db ⟨cu,ge,is,ch,un,wh,fr⟩ uc ug uw uf fs ts)) w) :
  Sy F0 w0 (dp J x s vr vk vq (gp J db ⟨wh,[],is,ch,un,wh,fr⟩ v3 (am none 0 0) uw uf fs ts)) ((w.setCell ⟨db,1,none⟩ v3).setCell ⟨db,2,none⟩ (am none 0 0)):=by
 have h1:=(((Θ h (i:=5) rfl).put (i:=6) rfl 1 v3).put (i:=6) rfl 2 (am none 0 0)).del 7;have h2:=h1.del 7;have h3:Sy F0 w0 (dp J x s vr vk vq (G2 v3 wh::aQ db 213 (FQ J ⟨wh,[],is,ch,un,wh,fr⟩ v3 (am none 0 0) uw uf)::dx uw wh::(fs++ts))) ((w.setCell ⟨db,1,none⟩ v3).setCell ⟨db,2,none⟩ (am none 0 0)):=h2;have h4:=h3.perm ((((((List.Perm.swap (aQ db 213 (FQ J ⟨wh,[],is,ch,un,wh,fr⟩ v3 (am none 0 0) uw uf)) (G2 v3 wh) (dx uw wh::(fs++ts))).cons _).cons _).cons _).cons _).cons _);exact(h4.add (aes _ _) (G2 (am none 0 0) []) ⟨.inl ⟨rfl,rfl⟩,rfl⟩ (by simp[Qu.blks,Value.ownBlock])).ins 7
theorem S3 (hf:Fm c s vk uf fs)(hst:bK c s=false)(hK:Kp F0 w0 J x s.k t vr vk vq (gp J db c' uc ug uw uf fs ts) w):Own w uf c.fr:=by
 rcases hf with ⟨e,_⟩ | ⟨e1,e2,e3⟩ | e
 ·rw[hst] at e;cases e
 ·subst e3
  rw[e1,e2];rcases hK with ⟨hk,hW⟩ | ⟨yC,hW⟩
  ·rw[<- hk]
   exact(cV hW).2.1
  ·exact eh hW (i:=5) rfl
 ·subst e
  rcases hK with ⟨_,hW⟩ | ⟨yC,hW⟩
  ·exact eh hW (i:=9) rfl
  ·exact eh hW (i:=10) rfl
theorem Ι (hf:Fm c s vk uf fs)(hK:Kp F0 w0 J x s.k t vr vk vq (gp J db c' uc ug uw uf fs ts) w):∃ yC,Sy F0 w0 (dp J x t vr yC vq (gp J db c' uc ug uw uf [] ts)) w:=by
 have h1:∃ yC,Sy F0 w0 (dp J x t vr yC vq (gp J db c' uc ug uw uf fs ts)) w:=by
  rcases hK with ⟨_,hW⟩ | ⟨yC,hW⟩
  ·exact⟨_,hW⟩
  ·exact⟨yC,hW.del 5⟩
 obtain⟨yC,h1⟩:=h1;rcases hf with ⟨_,e⟩ | ⟨_,_,e⟩ | e
 ·subst e;exact⟨_,h1⟩
 ·subst e;exact⟨_,h1⟩
 ·subst e;exact⟨_,h1.del 9⟩
theorem WI (h:Sy F0 w0 (dp J x s vr vk vq (gp J db c uc ug uw uf fs ts)) w)(hf:Fm c s vk uf fs)(aM:Ok x s)(hq:s.all.length<=900)(hc:c.cu=[])(jT:s.q=[])(hk:(bK c s && s.k.isEmpty)=false)
  (h1:(da c s).un=1) (h2:(da c s).wh.length<=1000) (h3:bK (da c s) s=false) :
  aG 179 #[ai (some ⟨db,0,none⟩)] w (ao #[Z ag 0,.bool true]) λw'=>DC F0 w0 J x db (NF (da c s) s) (uN s (da c s).fr) ts w':=by
 have HT:=Ci h;obtain⟨A1,cap1,e⟩:=sg (oV h (i:=6) rfl);rw[hc] at e;obtain⟨A2,cap2,e',_⟩:=(cV h).2.2.form;rw[jT] at e';obtain⟨A3,cap3,e3,_⟩:=(cV h).2.1.form;have HF:=af hf;have HO:=af (aen aM hq);obtain⟨c0,c1,_⟩:=ce h;have e5:=(O0 h).1;rw[e] at c1;rw[e'] at e5;cases hst:bK c s
 case' false =>
  have gV:da c s=c:=by unfold da;rw[hst];rfl
  rw[gV] at h1 h2 h3 ⊢;rw[hst] at HT;have HT:=af HT;clear hst gV hk aM hq hf h jT;obtain⟨d,rfl⟩:∃ d,d=c:=⟨c,rfl⟩
  have HU:=af (aen h1 (aen h2 h3));clear h1 h2 h3;go_enter func179,ntmps179;go_wp2_with fail;refine aP HT.out λwt hS=>?_
  clear c0 c1 e5 HT hc e e' e3
 case' true =>
  have gV:da c s=BR c s:=by unfold da;rw[hst];rfl
  rw[gV] at h1 h2 h3 ⊢;rw[hst] at HT hk;have hkn:((s.k.length:Int) == 0)=false:=by
   have hk':s.k≠[]:=by simpa using hk
   have:s.k.length≠0:=λe=>hk' (aeW e)
   simp;omega
  obtain⟨d,hd⟩:∃ d,BR c s=d:=⟨_,rfl⟩
  rw[hd] at h1 h2 h3 ⊢;have HD:=af hd;have HT:=af HT;have HU:=af (aen h1 (aen h2 h3));clear hst gV hk aM hq hf h jT hd h1 h2 h3;go_enter func179,ntmps179;go_wp2_with fail;refine aP HT.out λw1 h4=>?_
  clear c0 c1 e5 HT;have c0:=(ce h4).1;have e4:=(Di h4).1;rw[e3] at e4;have HB:=af (YD (sd HF.out h4) HO.out.1 HO.out.2);clear h4 HF;go_wp2_with fail;refine HB.out.mono ?_;rw[HD.out];rintro e wt ⟨rfl,vr,vk,vq,uc,ug,uw,uf,fs,hf,hS⟩;have HF:=af hf;clear c0 e4 HB hkn HD hf hc e e' e3
 all_goals
  obtain⟨cu,ge,is,ch,un,wh,fr⟩:=d;obtain⟨h1,h2,h3⟩:=HU.out;simp only at h1 h2 h3;subst h1;have LV:=af h3;have HLW:=af h2;have c5:wt.cell? ⟨db,5,none⟩=some (Z ag 1):=(ce hS).2.2.2.2.2.1;have f5:=(jg hS).free 5;have hS1:Sy F0 w0 (dp J x s vr vk vq (gp J db ⟨cu,ge,is,ch,0,wh,fr⟩ uc ug uw uf fs ts)) (wt.setCell ⟨db,5,none⟩ (Z ag 0)):=hS.put (i:=5) rfl 5 (Z ag 0);obtain⟨W1,mF⟩:∃ W,wt.setCell ⟨db,5,none⟩ (Z ag 0)=W:=⟨_,rfl⟩
  rw[mF] at hS1;obtain⟨B,hB⟩:∃ B,W1.heap.size=B:=⟨_,rfl⟩
  have c50:W1.cell? ⟨db,5,none⟩=some (Z ag 0):=(ce hS1).2.2.2.2.2.1;have GU:=(hS1.add ((aes _ _).alloc (Nat.le_refl _) (.cells #[] 3)) (dx (am (some ⟨W1.heap.size,0,none⟩) 0 0) []) ⟨NE W1,rfl⟩ (by simp[Qu.blks,Value.ownBlock])).ins 5;rw[hB] at GU;obtain⟨W2,qg⟩:∃ W,W1.alloc (.cells #[] 3)=W:=⟨_,rfl⟩
  rw[qg] at GU;have y6:W2.cell? ⟨db,6,none⟩=some uw:=(GU.blk (i:=6) rfl).cell (i:=6) rfl;have HW:=af (eh GU (i:=9) rfl);have HS2:=af GU;clear hS hS1 GU h2 h3 HU
  go_wp2_with (at_builtin;refine qK rfl _ _ rfl (j:=5) _ [] rfl HS2.out rfl _ wh rfl HW.out (by have:=HLW.out;simp;omega) ?_;intro v3 W3 h3;rw[List.nil_append] at h3;obtain⟨A3,cap3,eN,_⟩:=(eh h3 (i:=5) rfl).form;subst eN;have e1:=(h3.blk (i:=6) rfl).cell (i:=1) rfl;have e2:=(h3.blk (i:=6) rfl).cell (i:=2) rfl;have f1:=(h3.blk (i:=6) rfl).free 1;have f2:=(h3.blk (i:=6) rfl).free 2;have H4:=af (Jq h3);clear h3)
  clear y6 c5 f5 c50 f1 f2 e1 e2 HS2 HW mF qg hB
  go_loopw [7] (λc7 wr=>∃ (j:Nat) (YF:az),j<=wh.length/\c7 = Z ag j/\Sy F0 w0 (dp J x s vr vk vq (gp J db ⟨wh,(wh.take j).map (bL s.cs),is,ch,0,wh,fr⟩ (am A3 wh.length cap3) YF uw uf fs ts)) wr) (λc7 _=>wh.length - (aeI c7).toNat)
  case atStart=>exact⟨0,_,by omega,rfl,H4.out⟩
  case round =>
   obtain⟨j,YF,hj,rfl,hR⟩:=hrel;clear H4;by_cases hlt:j<wh.length
   ·obtain⟨z,hz⟩:∃ z,wh[j]?=some z:=⟨_,aD hlt⟩
    rcases (oV hR (i:=6) rfl).form with ⟨_,e⟩ | ⟨g,o,cap,e,_,_,_,hat⟩
    ·have e0:wh=[]:=e
     rw[e0] at hlt;simp at hlt
    simp only[Value.slice.injEq,true_and] at e;obtain⟨rfl,rfl⟩:=e;have r1:=hat j z hz;have HT:Aside ((wh.take (j+1)).map (bL s.cs)=(wh.take j).map (bL s.cs)++[bL s.cs z]):=by show _=_;rw[Tr.take_snoc hz,aff];rfl
    have a0:=(ce hR).1;have a1:=(ce hR).2.1;have a5:=lw hR;have a6:=QY hR (i:=1) rfl;have HG:=af (λW (hW:Sy F0 w0 (dp J x s vr vk vq (gp J db ⟨wh,(wh.take j).map (bL s.cs),is,ch,0,wh,fr⟩ (am (some ⟨g,o,none⟩) wh.length cap3) YF uw uf fs ts)) W)=>YE hW (i:=1) rfl z);obtain⟨gen,lm⟩:∃ gen,bL s.cs z=gen:=⟨_,rfl⟩
    rw[lm] at HT HG;have jQ:(j:Int)<wh.length:=by omega
    have HR:=af hR;clear hz hat lm hR;go_wp2_with fail;go_quiet ((go_at_call 112;exact bu (HG.out _ (HR.out.drewN _))));have h5:=HR.out.drewN nq;generalize wr.drewN nq=W5 at *;clear a0 a1 a5 a6 r1 HG HR;have c2:W5.cell? ⟨db,2,none⟩=some YF:=(ce h5).2.2.1;have hT5:=oV (h5.alloc (.cells #[Z ag gen] 3)) (i:=7) rfl;have H5:=af h5;clear h5
    go_wp2_with (at_builtin;refine Qu.jr _ rfl _ _ rfl _ ((wh.take j).map (bL s.cs)) rfl hT5 ⟨W5.heap.size,0,none⟩ 1 gen rfl (Qu.mT W5 gen) (by have:=HLW.out;simp;omega) ?_;intro A6 n6 cap6 W6 ND uH iw;have h6:=Ly (H5.out.alloc (.cells #[Z ag gen] 3)) (i:=7) rfl ND uH iw;have e2:=(h6.blk (i:=5) rfl).cell (i:=2) rfl;have f2:=(h6.blk (i:=5) rfl).free 2;have H7:=af (h6.put (i:=5) rfl 2 (am A6 n6 cap6));clear ND uH iw h6)
    clear f2 e2 c2 hT5 H5;go_roundw
    case rel=>exact⟨j+1,_,hlt,by go_num,by rw[HT.out];exact H7.out⟩
    case measure=>simp[aeI];omega
   ·have:j=wh.length:=by omega
    subst this;rw[aeF] at hR;have jQ:¬ ((wh.length:Int)<wh.length):=by omega
    have a1:=(ce hR).2.1;have hRd:=hR.drew;have a0:=(ce hRd).1;have a7:=(ce hRd).2.2.2.2.2.2.2;have aX:Own wr.drew uf fr:=S3 HF.out LV.out (aeG ⟨rfl,hRd⟩);obtain⟨A8,V7,eN,hl8,_⟩:=aX.form;have HC:=af (N1 (u:=uf) (l:=fr) hRd HO.out.1 ⟨A8,V7,eN,hl8⟩ (λW t hW=>S3 HF.out LV.out hW));rw[eN] at a7;have HSH:=af eN;clear hR hRd aX eN hl8;rw[HSH.out] at HC;go_wp2_with fail
    go_still_tail 8,(by kernel_rfl)
    go_wp2_with fail;refine aP HC.out λw8 hK=>?_
    obtain⟨yC,h9⟩:=Ι HF.out (HSH.out ▸ hK);have c3:=(ce h9).2.2.2.1;have f3:=(jg h9).free 3;have GY:=af (h9.put (i:=5) rfl 3 (.bool false));clear hK h9 HC a0 a7;go_wp2_with fail;go_ret2;exact⟨rfl,vr,yC,vq,_,_,uw,_,[],aeG ⟨by simp[bK,NF],rfl⟩,GY.out⟩
end
section
variable {F0:List Nat}{w0 w w':av}{ts fs:List Part}{J:mH}{x:Sh}{s s':Hs}{db n:Nat}{c c':Cs}{pc:Pc}
theorem Κ (h:DC F0 w0 J x db c s ts w)(dO:CR x c pc s)(hb:s.ch<=4611686018427387000) :
  aG 179 #[ai (some ⟨db,0,none⟩)] w (ao #[Z ag (kr c s),.bool (kq c s)]) λw'=>DC F0 w0 J x db (eP c s) (eE x c s) ts w':=by
 obtain⟨vr,vk,vq,uc,ug,uw,uf,fs,hf,h⟩:=h;cases hp:pc.cu with
 | cons p L =>
  obtain⟨e1,e2⟩:=Fe dO hp;obtain⟨b1,b2,b3,_,_⟩:=dO.cut hb hp;have hup:∀ {y:Cs},y.is=c.is->y.ch=c.ch->bK c s=true->bK y (if vB s p=true then nV x s p.1 else s)=true:=by
   intro y h1 h2 e;have hle:s.ch<=(if vB s p=true then nV x s p.1 else s).ch:=by
    split
    ·rename_i hv
     have ht:aS s.cs p.1=true:=by unfold vB at hv;simp only[aez] at hv;exact hv.1
     rw[(dO.ok.RB ht).2.2.2,ly dO.Je (by omega)];omega
    ·exact Int.le_refl _
   have:=dO.up hle e;unfold bK at this ⊢;rw[h1,h2];exact this
  have hk:(if vB s p=true then nV x s p.1 else s).k=s.k:=by
   split
   ·rename_i hv
    have ht:aS s.cs p.1=true:=by unfold vB at hv;simp only[aez] at hv;exact hv.1
    exact(dO.ok.RB ht).2.1
   ·rfl
  have aM:=dO.ok;have UG:=dO.few;clear dO;rw[b1,b2,b3];obtain⟨cu,ge,is,ch,un,wh,fr⟩:=c;simp only at e1 e2;subst e1 e2;exact(Η h aM UG).mono λe w' ⟨he,IV,IW,uc',YF,h'⟩=>⟨he,IV,vk,IW,uc',YF,uw,uf,fs,hf.to hk rfl (hup rfl rfl),h'⟩
 | nil =>
  have e1:c.cu=[]:=by rw[dO.cu,hp];rfl
  cases hq:Qu.eD s.q
  ·have jT:=pop_nil hq
   cases hr:j7 pc s with
   | none =>
    obtain⟨b1,b2,b3,b4,_,b5,b6⟩:=dO.stuck hp hq hr;rw[b1,b2,b3,b4];exact(WG (sd hf h) e1 jT b5 b6).mono λe w' ⟨he,h'⟩=>⟨he,vr,vk,vq,uc,ug,uw,uf,[],aeG ⟨by simp[bK],rfl⟩,h'⟩
   | some r =>
    obtain⟨b1,b2,b3,b4,_,b6⟩:=dO.round hp hq hr;obtain⟨u1,u2,u3,u4,u5⟩:=dO.abC hr;rw[b1,b2,b3,b4];by_cases hu:(da c s).un - 1=0
    ·rw[if_pos hu,if_pos hu]
     exact WI h hf dO.ok dO.few e1 jT b6 (by omega) u3 u5
    ·rw[if_neg hu,if_neg hu]
     exact abD h hf dO.ok dO.few e1 jT b6 u1 u2 hu
  ·obtain⟨b1,b2,b3,_,_⟩:=dO.drain hb hp hq
   have hC:eP c s=c:=by unfold eP;rw[e1,hq];rfl
   have uD:s.ch<(eK x s).ch:=by rw[BQ,ly dO.Je (by omega)];omega
   rw[b1,b2,b3,hC];exact(S1 (sd hf h) dO.ok dO.few e1 hq).mono λe w' ⟨he,IV,yC,IW,h'⟩=>⟨he,IV,yC,IW,uc,ug,uw,uf,[],aeG ⟨dO.gone uD,rfl⟩,h'⟩
theorem Λ (h:DC F0 w0 J x db c s ts w)(dO:CR x c pc s)(hb:s.ch<=4611686018427300000)(h1:1<=n)(h2:n<=65536) :
  aG 121 #[ai (some ⟨db,0,none⟩),Z ag n] w (ao #[Z ag (pQ x n c s),Z ag 0]) λw'=>DC F0 w0 J x db (tM x n c s) (rT x n c s) ts w':=by
 have H:=af h;have HCR:=af dO;have Dn:¬ (n:Int)<1:=by omega
 have kX:¬ (65536:Int)<n:=by omega
 have HB:=af hb;have HN:=af (aen h1 h2);clear h hb h1 h2 dO;go_enter func121,ntmps121;go_wp2_with fail
 go_loopg [6,7] n (λg s6 s7 wx=>∃ (k:Nat) (d:Int) (c':Cs) (s':Hs),k+g=n/\s7 = Z ag k/\s6 = Z ag d/\0<=d/\d<=k/\Aside (pQ x n c s=d+pQ x g c' s'/\tM x n c s=tM x g c' s'/\rT x n c s=rT x g c' s'/\s'.ch<=s.ch+k/\∃ pc',CR x c' pc' s')/\Aside (DC F0 w0 J x db c' s' ts wx))
 case atStart=>exact⟨0,0,c,s,by omega,rfl,rfl,Int.le_refl _,Int.le_refl _,⟨by simp,rfl,rfl,by simp,pc,HCR.out⟩,H.out⟩
 case round =>
  obtain⟨k,d,c',s',hk,rfl,rfl,L9,hdk,hE,hS⟩:=hrel;clear H HCR;cases gk with
  | zero =>
   have:k=n:=by omega
   subst this;have HE:=af (show pQ x k c s=d by rw[hE.out.1];show d+0=d;omega);go_wp2_with fail;go_ret2;refine⟨by rw[HE.out];rfl,?_⟩;rw[hE.out.2.1,hE.out.2.2.1];exact hS.out
  | succ g =>
   have hlt:(k:Int)<n:=by omega
   have UD:(k:Int)<=65536:=by have:=HN.out.2;omega
   obtain⟨y1,y2,y3,y4,pc',hR⟩:=hE.out;have LU:s'.ch<=4611686018427387000:=by have:=HB.out;omega
   have HU:=Κ hS.out hR LU;have hle:=RH c' s';have hun:=hR.unit LU;obtain⟨N,hN⟩:∃ N,kr c' s'=N:=⟨_,rfl⟩
   rw[hN] at HU hle;cases hB:kq c' s'
   ·rw[hB] at HU
    obtain⟨x1,x2,x3⟩:=ca.BV (x:=x) g hB;have hS':eE x c' s'=s':=by unfold kq at hB;unfold eE;simp only[Bool.or_eq_false_iff,Bool.not_eq_false'] at hB;obtain⟨q1,q2,q3⟩:=hB;rw[q1,q2,q3];rfl
    have HE:=af (aen (show pQ x n c s=d by rw[y1,x1];omega) (aen (show tM x n c s=eP c' s' by rw[y2,x2]) (show rT x n c s=eE x c' s' by rw[y3,x3,hS'])));have HU:=af HU;clear hS hE hR y1 y2 y3 y4 x1 x2 x3 hun hB hN hS';go_wp2_with fail;refine aP HU.out λw1 h1=>?_
    have H1:=af h1;clear h1 HU;go_wp2_with fail;go_ret2;refine⟨by rw[HE.out.1];rfl,?_⟩;rw[HE.out.2.1,HE.out.2.2];exact H1.out
   ·rw[hB] at HU
    obtain⟨x1,x2,x3⟩:=ca.st_succ (x:=x) g hB;rw[hB] at hun;have acK:∃ pc',CR x (eP c' s') pc' (eE x c' s')/\(eE x c' s').ch<=s'.ch+1:=by
     rcases hun with ⟨_,pc',q1,q2,_⟩ | ⟨q,_⟩
     ·exact⟨pc',q1,q2⟩
     ·cases q
    obtain⟨pc2,q1,q2⟩:=acK;have HX:=af (show pQ x n c s=(d+N)+pQ x g (eP c' s') (eE x c' s')/\tM x n c s=tM x g (eP c' s') (eE x c' s')/\rT x n c s=rT x g (eP c' s') (eE x c' s')/\(eE x c' s').ch<=s.ch+((k+1:Nat):Int)/\∃ pc',CR x (eP c' s') pc' (eE x c' s') from ⟨by rw[y1,x1,hN];omega,by rw[y2,x2],by rw[y3,x3],by push_cast;omega,pc2,q1⟩);have HU:=af HU;clear hS hE hR y1 y2 y3 y4 x1 x2 x3 hun hB hN q1 q2;go_wp2_with fail;refine aP HU.out λw1 h1=>?_
    have H1:=af h1;clear h1 HU;go_wp2_with fail
    go_roundg g
    case measure=>omega
    case rel=>exact⟨k+1,d+N,eP c' s',eE x c' s',by omega,by go_num,by go_num,by omega,by push_cast;omega,HX.out,H1.out⟩
end
end Hp
end
section
namespace Hp
open Go.RowKit
abbrev dgp (J:mH)(x:Sh)(db:Nat)(c:Cs)(s:Hs)(vr vk vq uc ug uw uf:az)(fs:List Part):List Part:=dp J x s vr vk vq (gp J db c uc ug uw uf fs [])
section
variable {F0:List Nat}{w0 w w':av}{ts fs K D:List Part}{I:Ids}{J:mH}{x:Sh}{L0:iR}{s t:Hs}{vr vk vq uc ug uw uf u:az}{cb db n:Nat}{c d:Cs}{pc:Pc}
theorem jH:dgp J x db c s vr vk vq uc ug uw uf fs++D=dp J x s vr vk vq (gp J db c uc ug uw uf fs D):=by simp[qI,gp]
end
end Hp
end
end Go.Proofs.YtdhgpmndgcggfaaGreatDoor
