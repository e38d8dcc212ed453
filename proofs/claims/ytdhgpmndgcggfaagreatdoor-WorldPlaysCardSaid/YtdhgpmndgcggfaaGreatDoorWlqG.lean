/- The document -/
import Derived.Test.YtdhgpmndgcggfaaGreatDoorPZ
import Derived.Deep.RegionHeldLaw
set_option maxRecDepth 100000
set_option maxHeartbeats 6400000
namespace Go.Proofs.YtdhgpmndgcggfaaGreatDoor
open _root_.Go.Proofs.Tryz
open Lib renaming hid → af
open Value renaming int → Z, pointer → ai, slice → am
open IntKind renaming i64 → ag
open Obj renaming cells → aA
open Nat renaming le_refl → aem
open And renaming intro → aen
open World renaming block_lt_of_cell? → aeo
open Go.RowKit.Below renaming refl → aes
open Or renaming inl → aeG
open List renaming setIfInBounds_toArray → aeJ, set_cons_zero → aeL, set_cons_succ → aeM, getElem_cons_zero → aeQ, getElem_cons_succ → aeR, getElem_toArray → aeT
open Act renaming put → ae9, eval → afi
namespace Wl
open Hp Tn Px Go.RowKit
attribute [local go_sem ↓] Go.wp_at_zero Go.wp_at_succ
section
variable {F0:List Nat}{w0 w w':World}{wb:Nat}{W:Ws}{ts ts':List Part}{o:Op}{τ:Wt}
theorem Xm {g n cap:Nat}{l:List En}(h:DW F0 w0 wb W ts w)(ho:qc w (am (some ⟨g,0,none⟩) n cap) l):g≠wb:=by
 obtain⟨uT,uX,uL,ms,qs,h⟩:=h;have hb:=h.sy.blk (i:=0) rfl;rintro rfl;rcases ho.2 with ⟨e,_⟩ | ⟨g',cap',cur,e,_,hg,_⟩
 ·cases e
 ·simp only[Value.slice.injEq,Option.some.injEq,Addr.mk.injEq,and_true] at e
  obtain⟨rfl,_,_⟩:=e;unfold bA at hb;rw[hb] at hg;simp only[Option.some.injEq,Obj.cells.injEq] at hg;exact absurd hg.2.1 (by decide)
theorem T9 {p:Nat}{cs:List Value}(h:DW F0 w0 wb W ts w)(hp:bA w p 41 cs):p≠wb:=by obtain⟨uT,uX,uL,ms,qs,h⟩:=h;exact TY hp (h.sy.blk (i:=0) rfl) (by decide)
theorem uy {w:World}{b p i j:Nat}(h:b≠p)(x:Value):(w.setCell ⟨p,j,none⟩ x).cell? ⟨b,i,none⟩=w.cell? ⟨b,i,none⟩:=by have h1:(w.setCell ⟨p,j,none⟩ x).heap[b]?=w.heap[b]?:=Below.heap_setCell _ _ _ b h;unfold World.cell?;simp only[h1]
theorem Gl (v:World){y:Lt}(h:∀ k,k<((v.alloc (aA #[] 171)).alloc (aA #[Z ag y.rc,Z ag y.fr,Z ag y.en,Z ag y.ge] 171)).heap.size->k≠v.heap.size->w.heap[k]?=((v.alloc (aA #[] 171)).alloc (aA #[Z ag y.rc,Z ag y.fr,Z ag y.en,Z ag y.ge] 171)).heap[k]?):sF w (some ⟨v.heap.size+1,0,none⟩) 1 1 [y]:=by
 have h1:=CZ (v.alloc (aA #[] 171)) y;have e:(v.alloc (aA #[] 171)).heap.size=v.heap.size+1:=by simp
 rw[e] at h1;obtain⟨h2,h3 | ⟨ad,h3,h4⟩⟩:=h1
 ·cases h3.1
 ·obtain rfl:=Option.some.inj h3
  refine⟨h2,Or.inr ⟨_,rfl,λj u hj=>?_⟩⟩;have h5:=h4 j u hj;rw[Addr.add_lit] at h5 ⊢;rw[<- h5];exact World.cell?_of_block (h (v.heap.size+1) (by simp) (by omega))
theorem Ai (v:World){y:Lt}{o:Obj}(h:∀ k,k<((v.alloc (aA #[Z ag y.rc,Z ag y.fr,Z ag y.en,Z ag y.ge] 171)).alloc o).heap.size->k≠v.heap.size+1->w.heap[k]?=((v.alloc (aA #[Z ag y.rc,Z ag y.fr,Z ag y.en,Z ag y.ge] 171)).alloc o).heap[k]?):sF w (some ⟨v.heap.size,0,none⟩) 1 1 [y]:=by
 obtain⟨h2,h3 | ⟨ad,h3,h4⟩⟩:=CZ v y
 ·cases h3.1
 ·obtain rfl:=Option.some.inj h3
  refine⟨h2,Or.inr ⟨_,rfl,λj u hj=>?_⟩⟩;have h5:=h4 j u hj;rw[Addr.add_lit] at h5 ⊢;rw[<- h5];refine World.cell?_of_block ((h v.heap.size (by simp;omega) (by omega)).trans ?_);exact Below.heap_alloc _ _ _ (by simp)
theorem Xn (h:DW F0 w0 wb W ts w)(hlt:qd W)(hL:W.l.length<=1000)(ho:o.ok)(hn:W.t.length<=16)(hi:tn W o.t=some τ)(hm:τ.x.may=true) :
  aG 45 #[ptr wb,o.val] w (GZ W o τ).val λw'=>DW F0 w0 wb (Cc W o τ) ts w':=by
 obtain⟨OJ,GI,hT⟩:=fW hi;obtain⟨v0,q0,v1,p,fS,jT,n_,hp,h1⟩:=kV h o;have hk:=h1.nG;have c1:=hk.cell (i:=1) rfl;have c2:=hk.cell (i:=2) rfl;have c4:=hk.cell (i:=4) rfl;obtain⟨nb,AG⟩:∃ b,kC W o.n=b:=⟨_,rfl⟩
 have uE:=af (Ou h1 o.n AG);cases hb:g_ W o.t o.n
 ·have q1:GZ W o τ=wrong 3:=by unfold GZ;rw[hb];rfl
  have q2:Cc W o τ=W:=by unfold Cc;rw[if_neg (λe=>by rw[hb] at e;cases e.1)]
  rw[q1,q2];have py:nb=false\/nb=true/\(o.n == o.t)=true:=by
   unfold g_ at hb;rw[AG] at hb;cases nb
   ·exact aeG rfl
   ·exact Or.inr ⟨rfl,by simpa using hb⟩
  have H1:=af h1;unfold Op.val ptr;clear h h1 hlt hL ho hn hi hm OJ GI hT hk AG hb q1 q2;rcases py with rfl | ⟨rfl,e1⟩
  all_goals
   go_enter func45,ntmps45;go_wp2_with fail;refine bH uE.out ?_;clear uE;go_wp2_with fail;refine aP (bz 3 _) λw3 dj=>?_
   have h3:=H1.out.more dj;unfold Tn.wrong An.val;clear dj;obtain⟨⟨⟨f0,f1,f2⟩,z0,z1,z2⟩,hA⟩:=dy h3;have HA:=af hA;clear hA h3;go_wp2_with fail;exact bm (HA.out _ _ _) rfl rfl rfl
 ·obtain⟨t1,Ϧ⟩:=oR hb
  obtain rfl:nb=true:=by rw[<- AG];exact t1
  have e1:(o.n == o.t)=false:=by simpa using λe:o.n=o.t=>Ϧ e.symm
  obtain⟨Xh,gT,cT,mb,jd,jc,jf,n',⟨y1',y2',y3',y4',y5'⟩,hCT,LM,yZ⟩:=abO h1 hi hm ⟨OJ,by omega⟩ o.w ho.2.2.1;obtain⟨n,ja,jb,gX,cX,gr,cr,u,⟨y1,y2,y3,y4,y5,y6,y7,y8,y9⟩,hO,hC,hK⟩:=CW h1 hT t1;obtain rfl:n'=n:=y1'.symm.trans y1;obtain rfl:Xh=ja:=by omega
  have hwa:IntKind.i64.wrap (o.t - 1)=(Xh:Int):=by rw[y2,IntKind.wrap_i64];omega
  have XI:IntKind.i64.wrap (o.n - 1)=(jb:Int):=by rw[y3,IntKind.wrap_i64];omega
  have z0:(0:Int)<=Xh:=by omega
  have z1:(0:Int)<=jb:=by omega
  obtain⟨k0,k1,k2,k3,k4⟩:=hCT _ (aes _ _);have Dx:=af hCT;have qm:=af LM;have acM:=af yZ;have HO:=af hO;have HC:=af hC;have HK:=af (λ(v:Value) (w1:World) (l':List En) (hf:zR u v v1 w1) (ho:qc w1 v l')=>hK (l':=l') hf ho);have dE:=af hk;have H1:=af h1;have HL:=af (aen hlt hL);have HWF:=af (hlt.wf o.t o.n);have nO:=af (λ(U:World) (hU:aF v1 U)=>show (U.cell? ⟨wb,1,none⟩=some (am (some ⟨gX,0,none⟩) n' cX)/\U.cell? ⟨gX,Xh,none⟩=some (am (some ⟨gr,0,none⟩) n' cr)/\U.cell? ⟨gr,jb,none⟩=some u/\U.frozen? ⟨gr,jb,none⟩=false)/\(U.cell? ⟨q0,1,none⟩=some (Z ag o.t)/\U.cell? ⟨q0,2,none⟩=some (Z .u64 o.w)/\U.cell? ⟨q0,4,none⟩=some (Z ag o.n))/\(U.cell? ⟨mb,1,none⟩=some (ai (some ⟨jd,0,none⟩))/\U.cell? ⟨jd,5,none⟩=some (ai (some ⟨jc,0,none⟩))/\U.cell? ⟨jc,0,none⟩=some (ai (some ⟨jf,0,none⟩))) from by
   have b:=dE.out.below hU dE.out.lt;exact⟨HC.out U hU,⟨b.cell (i:=1) rfl,b.cell (i:=2) rfl,b.cell (i:=4) rfl⟩,(Dx.out U hU).2.2⟩)
  by_cases hE:fh τ.x o.t τ.s o.w=0
  ·have hV:nX τ.x o.t τ.s o.w=bP o.w:=by unfold nX;rw[if_pos hE]
   obtain⟨G,hG⟩:∃ G,bL τ.s.cs (bP o.w)=G:=⟨_,rfl⟩
   obtain⟨C,JQ⟩:∃ C,bP o.w=C:=⟨_,rfl⟩
   have q1:GZ W o τ=if grE (W.x o.t o.n) C G=0 then datum (nl (W.x o.t o.n) C G) else wrong (grE (W.x o.t o.n) C G):=by unfold GZ;rw[if_pos hb,if_pos hE,hG,JQ]
   have q2:Cc W o τ=if grE (W.x o.t o.n) C G=0 then { (iq W o.t o.n (mI (W.x o.t o.n) C G)) with l:=W.l++[⟨o.n,o.t,nl (W.x o.t o.n) C G,vG (W.x o.t o.n) (nl (W.x o.t o.n) C G)⟩] } else W:=by
    unfold Cc;rw[hG,JQ];by_cases he:grE (W.x o.t o.n) C G=0
    ·rw[if_pos ⟨hb,hE,he⟩,if_pos he]
    ·rw[if_neg (λe=>he e.2.2),if_neg he]
   rw[q1,q2];have YS:=qm.out;rw[hE,hV,JQ] at YS;have YG:=λ(U:World) (hU:aF v1 U)=>acM.out U hU C
   rw[JQ] at hG;rw[hG] at YG;have qm:=af YS;have HGN:=af YG;by_cases he:grE (W.x o.t o.n) C G=0
   ·rw[if_pos he,if_pos he]
    obtain⟨_,_,z,hz,_,_,hzg,hv,hS⟩:=xN he;have hz8:=at_len (hlt.wf o.t o.n) hz;obtain⟨kf,hkf⟩:∃ kf,ll (W.x o.t o.n)=kf:=⟨_,rfl⟩
    rw[hkf] at hz hzg hv hS hz8;obtain⟨zg,hzz⟩:∃ zg,z.g=zg:=⟨_,rfl⟩
    have GQ:vG (W.x o.t o.n) (nl (W.x o.t o.n) C G)=zg:=by rw[hv,hzg,hzz]
    rw[GQ,hv];have XJ:=af (show (mI (W.x o.t o.n) C G)[kf]?=some ⟨1,zg,C,G⟩ from by
     rw[hS,hzz,List.getElem?_set_self (by have:=(lM hz).2.1;simpa using this)])
    have Kq:=af (show (mI (W.x o.t o.n) C G).length=8 from by rw[hS,List.length_set];exact(hlt.wf o.t o.n).len);have hk8:(kf:Int)<8:=by omega
    have LX:(0:Int)<=kf:=by omega
    have HEV:=af (aen he hv);obtain⟨W1,mF⟩:∃ W1,iq W o.t o.n (mI (W.x o.t o.n) C G)=W1:=⟨_,rfl⟩
    have Uy:=af (show W1.t=W.t/\W1.l=W.l by rw[<- mF];exact⟨rfl,rfl⟩);have HWW:=af mF;rw[mF];unfold Op.val An.val datum ptr;clear h h1 hlt hL ho hn hi hm OJ GI hT hk AG hb q1 q2 hE hV hG JQ YS YG he hz hzg hv hS hz8 hkf hzz GQ mF t1 Ϧ y1' y2' y3' y1 y2 y3 hCT LM yZ hO hC hK;go_enter func45,ntmps45;go_wp2_with fail;refine bH uE.out ?_;clear uE;go_wp2_with fail;go_quiet (fail);have jD:aF v1 (v1.drewN nq):=below_drewN (aes _ _) nq;have Gm:=af (qm.out _ jD);obtain⟨_,⟨m1,m2,m4⟩,_⟩:=nO.out _ jD;have Db:=af jD;clear jD k0 k1 k2 k3 k4 c1 c2 c4;go_wp2_with fail;refine aP Gm.out λw5 dT=>?_
    have dT:=aH Db.out dT;obtain⟨⟨d0,d1,d2,d3⟩,⟨m1,m2,m4⟩,⟨x1,x2,x3⟩⟩:=nO.out _ dT;have Ox:=af dT;have T_:=af (HGN.out w5.drew dT.drew);have hgr:=FH C G ((HO.out.below dT).below (Below.drew (aes _ _))) (by rw[HWF.out.len];omega);rw[HEV.out.1,HEV.out.2] at hgr;have NS:=af hgr;clear dT hgr Gm Db qm HGN;go_wp2_with fail
    go_region_held3 (λU=>(U.cell? ⟨wb,1,none⟩=some (am (some ⟨gX,0,none⟩) n' cX)/\U.cell? ⟨gX,Xh,none⟩=some (am (some ⟨gr,0,none⟩) n' cr)/\U.cell? ⟨gr,jb,none⟩=some u)/\(U.cell? ⟨q0,1,none⟩=some (Z ag o.t)/\U.cell? ⟨q0,4,none⟩=some (Z ag o.n))/\(U.cell? ⟨mb,1,none⟩=some (ai (some ⟨jd,0,none⟩))/\U.cell? ⟨jd,5,none⟩=some (ai (some ⟨jc,0,none⟩))/\U.cell? ⟨jc,0,none⟩=some (ai (some ⟨jf,0,none⟩)))) (first | exact⟨⟨d0,d1,d2⟩,⟨m1,m4⟩,⟨x1,x2,x3⟩⟩ | exact⟨⟨g0,g1,g2⟩,⟨i1,i4⟩,⟨j1,j2,j3⟩⟩)
     (first
      | (go_at_call 112;refine bH T_.out ?_)
      | (go_at_call 111;refine NS.out.mono ?_;rintro e w7 ⟨v,rfl,hv,hf⟩;obtain⟨Av,cv,eN,ϧ,acN,_⟩:=hv.form;rw[Kq.out] at eN ϧ;subst eN;have lg:=Ox.out.trans (((Below.drew (aes _ _)).trans hf.2).mono Ox.out.size);obtain⟨⟨g0,g1,g2,g3⟩,⟨i1,i2,i4⟩,⟨j1,j2,j3⟩⟩:=nO.out _ lg;have HV:=af (aen hv (aen (show zR u (am Av 8 cv) v1 w7 from ⟨hf.1.imp id (λh g hg=>Nat.le_trans Ox.out.size (h g hg)),lg⟩) lg));clear hv hf lg))
    clear d0 d1 d2 d3 m1 m2 m4 x1 x2 x3 j1 j2 j3 i2 T_ NS Ox;obtain⟨⟨_,_,g2',g3'⟩,_⟩:=nO.out w7.drew HV.out.2.2.drew;go_wp2_with fail;go_region
    all_goals
     have h8:=HK.out _ w7 _ HV.out.2.1 HV.out.1;rw[HWW.out] at h8;obtain⟨h8,WB⟩:=h8;have H8:=af (show DW F0 w0 wb W1 (YP p::aQ q0 41 o.cells::ts) (w7.setCell ⟨gr,jb,none⟩ (am Av 8 cv)).drew from h8.more (Below.drew (aes _ _)));replace WB:qc (w7.setCell ⟨gr,jb,none⟩ (am Av 8 cv)).drew (am Av 8 cv) (mI (W.x o.t o.n) C G):=WB.below (Below.drew (aes _ _));clear h8;generalize (w7.setCell ⟨gr,jb,none⟩ (am Av 8 cv)).drew=w8 at H8 WB ⊢;obtain⟨A',c',e',_,_,hat⟩:=WB.form;rw[Kq.out] at e';simp only[Value.slice.injEq,true_and] at e';obtain⟨rfl,rfl⟩:=e';obtain⟨gv,rfl,hgv,_,n1,_⟩:=hat kf _ XJ.out;have LZ:=Xm H8.out WB;have hqw:q0≠wb:=T9 H8.out H8.out.nG;obtain⟨uL,G6,LS⟩:=LK H8.out;obtain⟨_,_,aX⟩:=G6 _ (aes _ _);rw[Uy.out.2] at aX;obtain⟨AL,JR,rfl,adt,adu,OU,_⟩:=src_of aX;have hlen:W.l.length<=1000:=HL.out.2;have HB8:=af H8.out.nG;have JS:=af (λ(U:World) (hU:aF w8 U)=>show (U.cell? ⟨wb,2,none⟩=some (am AL W.l.length JR)/\U.frozen? ⟨wb,2,none⟩=false)/\U.cell? ⟨q0,1,none⟩=some (Z ag o.t)/\U.cell? ⟨q0,4,none⟩=some (Z ag o.n)/\U.cell? ⟨gv,kf * 4+1,none⟩=some (Z ag zg) from by
      have b:=HB8.out.below hU HB8.out.lt;exact⟨⟨(G6 U hU).1,(G6 U hU).2.1⟩,b.cell (i:=1) rfl,b.cell (i:=4) rfl,cell_below hU _ _ n1⟩)
     have yj:=af (λ(U:World) (v:Value) (hU:aF w8 U) (hv:JO U v (([]++W.l)++[⟨o.n,o.t,kf,zg⟩])) (hg:∀ g,v.ownBlock=some g->w8.heap.size<=g)=>show DW F0 w0 wb { W1 with l:=W.l++[⟨o.n,o.t,kf,zg⟩] } (YP p::aQ q0 41 o.cells::ts) (U.setCell ⟨wb,2,none⟩ v) from LS hU hv hg);have Ϩ:=af OU;obtain⟨⟨l2,l2f⟩,l1,l4,l5⟩:=JS.out _ (aes _ _);have vI:wb<w8.heap.size:=aeo w8 ⟨wb,2,none⟩ l2;have J5:q0<w8.heap.size:=aeo w8 ⟨q0,1,none⟩ l1;have Us:gv<w8.heap.size:=aeo w8 ⟨gv,kf * 4+1,none⟩ l5;have HM:=af (C0 w8);have HSR:=af (pg Ϩ.out (λq v h=>cell_below ((aes _ w8).alloc (aem _) (aA #[] 171)) q v h));have qP:=af (show ([]:List Lt).length+W.l.length<=10000 by simp;omega);have ϩ:=af (show ([]++W.l).length+[(⟨o.n,o.t,kf,zg⟩:Lt)].length<=10000 by simp;omega);clear H8 WB hat G6 LS aX OU n1 hgv HK HV HWW Uy XJ Kq HEV nO HO HC dE H1 HL HWF Dx g0 g1 g2 g3 g2' g3' i1 i4 HB8;have Ϫ:=af (pg HSR.out (λq v h=>cell_below ((aes _ _).alloc (aem _) (aA #[Z ag o.n,Z ag o.t,Z ag kf,Z ag zg] 171)) q v h));have ϫ:=af ((aes _ w8).alloc (aem _) (aA #[] 171));have HM3:=af (show JO ((w8.alloc (aA #[Z ag o.n,Z ag o.t,Z ag kf,Z ag zg] 171)).alloc (aA #[] 171)) (am (some ⟨w8.heap.size+1,0,none⟩) 0 0) [] from by
      have h:=C0 (w8.alloc (aA #[Z ag o.n,Z ag o.t,Z ag kf,Z ag zg] 171));rwa [show (w8.alloc (aA #[Z ag o.n,Z ag o.t,Z ag kf,Z ag zg] 171)).heap.size=w8.heap.size+1 by simp] at h)
     have Xo:=af (((aes _ w8).alloc (aem _) (aA #[Z ag o.n,Z ag o.t,Z ag kf,Z ag zg] 171)).alloc (by simp) (aA #[] 171));have Ϭ:=af (pg Ϩ.out (λq v h=>cell_below Xo.out q v h))
     go_upto_region 12 with fail
     go_cut [10] (λs10 wx=>s10 = Z ag kf/\DW F0 w0 wb { W1 with l:=W.l++[⟨o.n,o.t,kf,zg⟩] } (YP p::aQ q0 41 o.cells::ts) wx)
     case first =>
      as_aux_lemma =>
       refine wp_region_held_drew (S:=λU=>U.cell? ⟨q0,1,none⟩=some (Z ag o.t)/\U.cell? ⟨q0,4,none⟩=some (Z ag o.n)/\U.cell? ⟨gv,kf * 4+1,none⟩=some (Z ag zg)) (by kernel_rfl) ⟨l1,l4,l5⟩ (λhHeld=>?_);refine wpAnyH_take (i:=0) (v:=?_) rfl (by kernel_rfl) (by kernel_rfl) (by kernel_rfl) (λ_ _ _ h=>h) (aeG ⟨by rfl,?_⟩) (by assumption) ?_;rotate_left
       ·(intro w kw;(try dsimp only at kw);go_simp;(try with_reducible rfl))
       try simp only[ae9,aeT,aeQ,aeJ,aeL,aeM]
       refine wpAnyH_take (i:=2) (v:=?_) rfl (by kernel_rfl) (by kernel_rfl) (by kernel_rfl) (λ_ _ _ h=>h) (aeG ⟨by rfl,?_⟩) (by assumption) ?_;rotate_left
       ·(intro w kw;(try dsimp only at kw);go_simp;(try with_reducible rfl))
       try simp only[ae9,aeT,aeR,aeQ,aeJ,aeL,aeM]
       refine wpAnyH_take (i:=3) (v:=?_) rfl (by kernel_rfl) (by kernel_rfl) (by kernel_rfl) (λ_ _ _ h=>h) (aeG ⟨by rfl,?_⟩) (by assumption) ?_;rotate_left
       ·(intro w kw;(try dsimp only at kw);go_simp;(try with_reducible rfl))
       try simp only[ae9,aeT,aeR,aeQ,aeJ,aeL,aeM]
       refine wpAnyH_take (i:=4) (v:=?_) rfl (by kernel_rfl) (by kernel_rfl) (by kernel_rfl) (λ_ _ _ h=>h) (aeG ⟨by rfl,?_⟩) (by assumption) ?_;rotate_left
       ·(intro w kw;(try dsimp only at kw);go_simp;(try with_reducible rfl))
       try simp only[ae9,aeT,aeR,aeQ,aeJ,aeL,aeM]
       refine wpAnyH_take (i:=7) (v:=?_) rfl (by kernel_rfl) (by kernel_rfl) (by kernel_rfl) (λ_ _ _ h=>h) (aeG ⟨by rfl,?_⟩) (by assumption) ?_;rotate_left
       ·(intro w kw;(try dsimp only at kw);go_simp;(try with_reducible rfl))
       try simp only[ae9,aeT,aeR,aeQ,aeJ,aeL,aeM]
       refine wpAnyH_take (i:=8) (v:=?_) rfl (by kernel_rfl) (by kernel_rfl) (by kernel_rfl) (λ_ _ _ h=>h) (aeG ⟨by rfl,?_⟩) (by assumption) ?_;rotate_left
       ·(intro w kw;(try dsimp only at kw);go_simp;(try with_reducible rfl))
       try simp only[ae9,aeT,aeR,aeQ,aeJ,aeL,aeM]
       refine wpAnyH_take (i:=9) (v:=?_) rfl (by kernel_rfl) (by kernel_rfl) (by kernel_rfl) (λ_ _ _ h=>h) (aeG ⟨by rfl,?_⟩) (by assumption) ?_;rotate_left
       ·(intro w kw;(try dsimp only at kw);go_simp;(try with_reducible rfl))
       try simp only[ae9,aeT,aeR,aeQ,aeJ,aeL,aeM]
       refine wpAnyH_take (i:=10) (v:=?_) rfl (by kernel_rfl) (by kernel_rfl) (by kernel_rfl) (λ_ _ _ h=>h) (aeG ⟨by rfl,?_⟩) (by assumption) ?_;rotate_left
       ·(intro w kw;(try dsimp only at kw);go_simp;(try with_reducible rfl))
       try simp only[ae9,aeT,aeR,aeQ,aeJ,aeL,aeM]
       refine wpAnyH_take (i:=11) (v:=?_) rfl (by kernel_rfl) (by kernel_rfl) (by kernel_rfl) (λ_ _ _ h=>h) (aeG ⟨by rfl,?_⟩) (by assumption) ?_;rotate_left
       ·(intro w kw;(try dsimp only at kw);go_simp;(try with_reducible rfl))
       try simp only[ae9,aeT,aeR,aeQ,aeJ,aeL,aeM]
       refine wpAnyH_take (i:=12) (v:=?_) rfl (by kernel_rfl) (by kernel_rfl) (by kernel_rfl) (λ_ _ _ h=>h) (aeG ⟨by rfl,?_⟩) (by assumption) ?_;rotate_left
       ·(intro w kw;(try dsimp only at kw);go_simp;(try with_reducible rfl))
       try simp only[ae9,aeT,aeR,aeQ,aeJ,aeL,aeM]
       refine wpAnyH_take (i:=13) (v:=?_) rfl (by kernel_rfl) (by kernel_rfl) (by kernel_rfl) (λ_ _ _ h=>h) (aeG ⟨by rfl,?_⟩) (by assumption) ?_;rotate_left
       ·(intro w kw;(try dsimp only at kw);go_simp;(try with_reducible rfl))
       try simp only[ae9,aeT,aeR,aeQ,aeJ,aeL,aeM]
       refine wpAnyH_take (i:=14) (v:=?_) rfl (by kernel_rfl) (by kernel_rfl) (by kernel_rfl) (λ_ _ _ h=>h) (aeG ⟨by rfl,?_⟩) (by assumption) ?_;rotate_left
       ·(intro w kw;(try dsimp only at kw);go_simp;(try with_reducible rfl))
       try simp only[ae9,aeT,aeR,aeQ,aeJ,aeL,aeM]
       refine wpAnyH_take (i:=15) (v:=?_) rfl (by kernel_rfl) (by kernel_rfl) (by kernel_rfl) (λ_ _ _ h=>h) (aeG ⟨by rfl,?_⟩) (by assumption) ?_;rotate_left
       ·(intro w kw;(try dsimp only at kw);go_simp;(try with_reducible rfl))
       try simp only[ae9,aeT,aeR,aeQ,aeJ,aeL,aeM]
       refine wpAnyH_take (i:=16) (v:=?_) rfl (by kernel_rfl) (by kernel_rfl) (by kernel_rfl) (λ_ _ _ h=>h) (aeG ⟨by rfl,?_⟩) (by assumption) ?_;rotate_left
       ·(intro w kw;(try dsimp only at kw);go_simp;(try with_reducible rfl))
       try simp only[ae9,aeT,aeR,aeQ,aeJ,aeL,aeM]
       refine wpAnyH_take (i:=17) (v:=?_) rfl (by kernel_rfl) (by kernel_rfl) (by kernel_rfl) (λ_ _ _ h=>h) (aeG ⟨by rfl,?_⟩) (by assumption) ?_;rotate_left
       ·(intro w kw;(try dsimp only at kw);go_simp;(try with_reducible rfl))
       try simp only[ae9,aeT,aeR,aeQ,aeJ,aeL,aeM]
       refine wpAnyH_ready (rs:=[1,5,18]) (by kernel_rfl) (by simp) ?_;refine(AllReadyH.cons rfl (λK hK=>?_) (AllReadyH.cons rfl (λK hK=>?_) (AllReadyH.cons rfl (λK hK=>?_) AllReadyH.nil)));rotate_left 3
       all_goals
        go_simp;refine hK.out _ _ (by first | exact⟨l1,l4,l5⟩ | exact⟨a_ _ l1,a_ _ l4,a_ _ l5⟩) (λhHeld=>?_);clear hK K
        try simp only[ae9,aeT,aeR,aeQ,aeJ,aeL,aeM]
       refine wpAnyH_ready (rs:=[5,18]) (by kernel_rfl) (by simp) ?_;refine(AllReadyH.cons rfl (λK hK=>?_) (AllReadyH.cons rfl (λK hK=>?_) AllReadyH.nil));rotate_left 2;refine wpAnyH_ready (rs:=[1,18]) (by kernel_rfl) (by simp) ?_;refine(AllReadyH.cons rfl (λK hK=>?_) (AllReadyH.cons rfl (λK hK=>?_) AllReadyH.nil));rotate_left 2;refine wpAnyH_ready (rs:=[1,5]) (by kernel_rfl) (by simp) ?_;refine(AllReadyH.cons rfl (λK hK=>?_) (AllReadyH.cons rfl (λK hK=>?_) AllReadyH.nil));rotate_left 2
       all_goals
        go_simp;refine hK.out _ _ (by first | exact⟨l1,l4,l5⟩ | exact⟨a_ _ l1,a_ _ l4,a_ _ l5⟩ | exact⟨a_ _ (a_ _ l1),a_ _ (a_ _ l4),a_ _ (a_ _ l5)⟩) (λhHeld=>?_);clear hK K
        try simp only[ae9,aeT,aeR,aeQ,aeJ,aeL,aeM]
       refine wpAnyH_ready (rs:=[6,18]) (by kernel_rfl) (by simp) ?_;refine(AllReadyH.cons rfl (λK hK=>?_) (AllReadyH.cons rfl (λK hK=>?_) AllReadyH.nil));rotate_left 2;refine wpAnyH_ready (rs:=[5]) (by kernel_rfl) (by simp) ?_;refine(AllReadyH.cons rfl (λK hK=>?_) AllReadyH.nil);rotate_left 1;refine wpAnyH_ready (rs:=[6,18]) (by kernel_rfl) (by simp) ?_;refine(AllReadyH.cons rfl (λK hK=>?_) (AllReadyH.cons rfl (λK hK=>?_) AllReadyH.nil));rotate_left 2;refine wpAnyH_ready (rs:=[1]) (by kernel_rfl) (by simp) ?_;refine(AllReadyH.cons rfl (λK hK=>?_) AllReadyH.nil);rotate_left 1;refine wpAnyH_ready (rs:=[5]) (by kernel_rfl) (by simp) ?_;refine(AllReadyH.cons rfl (λK hK=>?_) AllReadyH.nil);rotate_left 1;refine wpAnyH_ready (rs:=[1]) (by kernel_rfl) (by simp) ?_;refine(AllReadyH.cons rfl (λK hK=>?_) AllReadyH.nil);rotate_left 1
       all_goals
        first
         | (refine dS (by rfl) (.tmp 97) (.tmp 101) (by rfl) (g0:=w8.heap.size) (n0:=0) (c0:=0) (by simp[afi]) HM.out (aem _) (A:=AL) (m:=W.l.length) (c:=JR) (by simp[afi]) HSR.out qP.out ?_;intro n9 g9 c9 w9 C4 mC dI Aj;have sT:aF w8 w9:=ϫ.out.drew.trans dI;obtain⟨⟨a2,ϭ⟩,a1,a4,a5⟩:=JS.out w9 sT;have LN:=af sT;have oe:wb<w9.heap.size:=aeo w9 ⟨wb,2,none⟩ a2;have XW:q0<w9.heap.size:=aeo w9 ⟨q0,1,none⟩ a1;have ha3:gv<w9.heap.size:=aeo w9 ⟨gv,kf * 4+1,none⟩ a5;have JU:=af (aen mC Aj);clear sT dI Aj mC C4)
         | (refine fH (by rfl) (.tmp 97) (.tmp 101) (by rfl) (g0:=w8.heap.size) (n0:=0) (c0:=0) (by simp[afi,ae9]) (HM.out.alloc (aA #[Z ag o.n,Z ag o.t,Z ag kf,Z ag zg] 171)) (aem _) (A:=AL) (m:=W.l.length) (c:=JR) (by simp[afi,ae9]) Ϫ.out qP.out ?_;intro n9 g9 c9 w9 C4 mC dI Aj UO;have sT:aF w8 w9:=(ϫ.out.alloc ϫ.out.size (aA #[Z ag o.n,Z ag o.t,Z ag kf,Z ag zg] 171)).drew.trans dI;obtain⟨⟨a2,ϭ⟩,a1,a4,a5⟩:=JS.out w9 sT;have LN:=af sT;have oe:wb<w9.heap.size:=aeo w9 ⟨wb,2,none⟩ a2;have XW:q0<w9.heap.size:=aeo w9 ⟨q0,1,none⟩ a1;have ha3:gv<w9.heap.size:=aeo w9 ⟨gv,kf * 4+1,none⟩ a5;have HS9:=af (show sF w9 (some ⟨w8.heap.size+1,0,none⟩) 1 1 [⟨o.n,o.t,kf,zg⟩] from Gl w8 UO);have JU:=af (aen mC Aj);clear sT dI Aj mC C4 UO)
         | (refine fH (by rfl) (.tmp 97) (.tmp 101) (by rfl) (g0:=w8.heap.size+1) (n0:=0) (c0:=0) (by simp[afi,ae9]) HM3.out (Nat.le_succ _) (A:=AL) (m:=W.l.length) (c:=JR) (by simp[afi,ae9]) Ϭ.out qP.out ?_;intro n9 g9 c9 w9 C4 mC dI Aj UO;have sT:aF w8 w9:=Xo.out.drew.trans dI;obtain⟨⟨a2,ϭ⟩,a1,a4,a5⟩:=JS.out w9 sT;have LN:=af sT;have oe:wb<w9.heap.size:=aeo w9 ⟨wb,2,none⟩ a2;have XW:q0<w9.heap.size:=aeo w9 ⟨q0,1,none⟩ a1;have ha3:gv<w9.heap.size:=aeo w9 ⟨gv,kf * 4+1,none⟩ a5;have HS9:=af (show sF w9 (some ⟨w8.heap.size,0,none⟩) 1 1 [⟨o.n,o.t,kf,zg⟩] from Ai w8 UO);have JU:=af (aen mC Aj);clear sT dI Aj mC C4 UO)
         | go_simp
        refine hK.out _ _ (by first | exact⟨a1,a4,a5⟩ | exact⟨a_ _ l1,a_ _ l4,a_ _ l5⟩ | exact⟨a_ _ (a_ _ l1),a_ _ (a_ _ l4),a_ _ (a_ _ l5)⟩) (λhHeld=>?_);clear hK K
        try simp only[ae9,aeT,aeR,aeQ,aeJ,aeL,aeM]
       refine wpAnyH_ready (rs:=[18]) (by kernel_rfl) (by simp) ?_;refine(AllReadyH.cons rfl (λK hK=>?_) AllReadyH.nil);rotate_left 1;refine wpAnyH_ready (rs:=[6]) (by kernel_rfl) (by simp) ?_;refine(AllReadyH.cons rfl (λK hK=>?_) AllReadyH.nil);rotate_left 1;refine wpAnyH_ready (rs:=[6]) (by kernel_rfl) (by simp) ?_;refine(AllReadyH.cons rfl (λK hK=>?_) AllReadyH.nil);rotate_left 1;refine wpAnyH_ready (rs:=[18]) (by kernel_rfl) (by simp) ?_;refine(AllReadyH.cons rfl (λK hK=>?_) AllReadyH.nil);rotate_left 1;refine wpAnyH_ready (rs:=[6]) (by kernel_rfl) (by simp) ?_;refine(AllReadyH.cons rfl (λK hK=>?_) AllReadyH.nil);rotate_left 1;refine wpAnyH_ready (rs:=[6]) (by kernel_rfl) (by simp) ?_;refine(AllReadyH.cons rfl (λK hK=>?_) AllReadyH.nil);rotate_left 1;refine wpAnyH_ready (rs:=[6]) (by kernel_rfl) (by simp) ?_;refine(AllReadyH.cons rfl (λK hK=>?_) AllReadyH.nil);rotate_left 1;refine wpAnyH_ready (rs:=[6]) (by kernel_rfl) (by simp) ?_;refine(AllReadyH.cons rfl (λK hK=>?_) AllReadyH.nil);rotate_left 1
       all_goals
        first
         | (refine dS (by rfl) (.tmp 97) (.tmp 101) (by rfl) (g0:=w8.heap.size) (n0:=0) (c0:=0) (by simp[afi,ae9]) HM.out (aem _) (A:=AL) (m:=W.l.length) (c:=JR) (by simp[afi,ae9]) HSR.out qP.out ?_;intro n9 g9 c9 w9 C4 mC dI Aj;have sT:aF w8 w9:=ϫ.out.drew.trans dI;obtain⟨⟨a2,ϭ⟩,a1,a4,a5⟩:=JS.out w9 sT;have LN:=af sT;have oe:wb<w9.heap.size:=aeo w9 ⟨wb,2,none⟩ a2;have XW:q0<w9.heap.size:=aeo w9 ⟨q0,1,none⟩ a1;have ha3:gv<w9.heap.size:=aeo w9 ⟨gv,kf * 4+1,none⟩ a5;have JU:=af (aen mC Aj);clear sT dI Aj mC C4)
         | (refine fH (by rfl) (.tmp 97) (.tmp 101) (by rfl) (g0:=w8.heap.size) (n0:=0) (c0:=0) (by simp[afi]) (HM.out.alloc (aA #[Z ag o.n,Z ag o.t,Z ag kf,Z ag zg] 171)) (aem _) (A:=AL) (m:=W.l.length) (c:=JR) (by simp[afi]) Ϫ.out qP.out ?_;intro n9 g9 c9 w9 C4 mC dI Aj UO;have sT:aF w8 w9:=(ϫ.out.alloc ϫ.out.size (aA #[Z ag o.n,Z ag o.t,Z ag kf,Z ag zg] 171)).drew.trans dI;obtain⟨⟨a2,ϭ⟩,a1,a4,a5⟩:=JS.out w9 sT;have LN:=af sT;have oe:wb<w9.heap.size:=aeo w9 ⟨wb,2,none⟩ a2;have XW:q0<w9.heap.size:=aeo w9 ⟨q0,1,none⟩ a1;have ha3:gv<w9.heap.size:=aeo w9 ⟨gv,kf * 4+1,none⟩ a5;have HS9:=af (show sF w9 (some ⟨w8.heap.size+1,0,none⟩) 1 1 [⟨o.n,o.t,kf,zg⟩] from Gl w8 UO);have JU:=af (aen mC Aj);clear sT dI Aj mC C4 UO)
         | (refine fH (by rfl) (.tmp 97) (.tmp 101) (by rfl) (g0:=w8.heap.size+1) (n0:=0) (c0:=0) (by simp[afi]) HM3.out (Nat.le_succ _) (A:=AL) (m:=W.l.length) (c:=JR) (by simp[afi]) Ϭ.out qP.out ?_;intro n9 g9 c9 w9 C4 mC dI Aj UO;have sT:aF w8 w9:=Xo.out.drew.trans dI;obtain⟨⟨a2,ϭ⟩,a1,a4,a5⟩:=JS.out w9 sT;have LN:=af sT;have oe:wb<w9.heap.size:=aeo w9 ⟨wb,2,none⟩ a2;have XW:q0<w9.heap.size:=aeo w9 ⟨q0,1,none⟩ a1;have ha3:gv<w9.heap.size:=aeo w9 ⟨gv,kf * 4+1,none⟩ a5;have HS9:=af (show sF w9 (some ⟨w8.heap.size,0,none⟩) 1 1 [⟨o.n,o.t,kf,zg⟩] from Ai w8 UO);have JU:=af (aen mC Aj);clear sT dI Aj mC C4 UO)
         | go_simp
        refine hK.out _ _ (by first | exact⟨a1,a4,a5⟩ | exact⟨a_ _ a1,a_ _ a4,a_ _ a5⟩) (λhHeld=>?_);clear hK K
        try simp only[ae9,aeT,aeR,aeQ,aeJ,aeL,aeM]
       all_goals (refine wpAnyH_ready (rs:=[19]) (by kernel_rfl) (by simp) ?_;refine(AllReadyH.cons rfl (λK hK=>?_) AllReadyH.nil))
       all_goals
        first
         | (refine dS (by rfl) (.tmp 102) (.tmp 114) (by rfl) (g0:=g9) (n0:=n9) (c0:=c9) (by simp[afi]) (JU.out.1.alloc _) JU.out.2 (A:=some ⟨w9.heap.size,0,none⟩) (m:=1) (c:=1) (by simp[afi]) (CZ w9 ⟨o.n,o.t,kf,zg⟩) ϩ.out ?_;intro n10 g10 c10 w10 JV pj ym JW;have qe:aF w8 w10:=(LN.out.alloc LN.out.size (aA #[Z ag o.n,Z ag o.t,Z ag kf,Z ag zg] 171)).trans ym;obtain⟨⟨b2,b2f⟩,b1,b4,b5⟩:=JS.out w10 qe;have HF:=af (yj.out w10 _ qe pj (λg hg=>by simp[Value.ownBlock] at hg;omega));clear qe ym JW pj JV)
         | (refine dS (by rfl) (.tmp 102) (.tmp 114) (by rfl) (g0:=g9) (n0:=n9) (c0:=c9) (by simp[afi]) JU.out.1 JU.out.2 (A:=some ⟨w8.heap.size+1,0,none⟩) (m:=1) (c:=1) (by simp[afi]) HS9.out ϩ.out ?_;intro n10 g10 c10 w10 JV pj ym JW;have qe:aF w8 w10:=LN.out.trans ym;obtain⟨⟨b2,b2f⟩,b1,b4,b5⟩:=JS.out w10 qe;have HF:=af (yj.out w10 _ qe pj (λg hg=>by simp[Value.ownBlock] at hg;omega));clear qe ym JW pj JV)
         | (refine dS (by rfl) (.tmp 102) (.tmp 114) (by rfl) (g0:=g9) (n0:=n9) (c0:=c9) (by simp[afi]) JU.out.1 JU.out.2 (A:=some ⟨w8.heap.size,0,none⟩) (m:=1) (c:=1) (by simp[afi]) HS9.out ϩ.out ?_;intro n10 g10 c10 w10 JV pj ym JW;have qe:aF w8 w10:=LN.out.trans ym;obtain⟨⟨b2,b2f⟩,b1,b4,b5⟩:=JS.out w10 qe;have HF:=af (yj.out w10 _ qe pj (λg hg=>by simp[Value.ownBlock] at hg;omega));clear qe ym JW pj JV)
        refine hK.out _ _ (by first | exact⟨b1,b4,b5⟩) (λhHeld=>?_);clear hK K
        try simp only[ae9,aeT,aeR,aeQ,aeJ,aeL,aeM]
       all_goals
        refine wpAnyH_take (i:=20) (v:=?_) rfl (by kernel_rfl) (by kernel_rfl) (by kernel_rfl) (λ_ _ _ h=>h) (aeG ⟨by rfl,?_⟩) (by assumption) ?_;rotate_left
        ·(intro w kw;(try dsimp only at kw);go_simp;(try with_reducible rfl))
        try simp only[ae9,aeT,aeR,aeQ,aeJ,aeL,aeM]
        refine wpAnyH_take (i:=21) (v:=?_) rfl (by kernel_rfl) (by kernel_rfl) (by kernel_rfl) (λ_ _ _ h=>h) (aeG ⟨by rfl,?_⟩) (by assumption) ?_;rotate_left
        ·(intro w kw;(try dsimp only at kw);go_simp;(try with_reducible rfl))
        try simp only[ae9,aeT,aeR,aeQ,aeJ,aeL,aeM]
        refine wpAnyH_ready (rs:=[22]) (by kernel_rfl) (by simp) ?_;refine(AllReadyH.cons rfl (λK hK=>?_) AllReadyH.nil)
       all_goals
        go_simp;refine hK.out _ _ (by first | exact⟨(uy hqw _).trans b1,(uy hqw _).trans b4,(uy LZ _).trans b5⟩) (λhHeld=>?_);clear hK K
        try simp only[ae9,aeT,aeR,aeQ,aeJ,aeL,aeM]
       all_goals
        refine wpAnyH_done (by kernel_rfl) ?_ _;go_wp2_with fail;go_meet;exact⟨rfl,HF.out⟩
     case rest =>
     obtain⟨rfl,h10⟩:=hcut;have GY:=af h10;have HDA:=af (sx kf LX (by omega));clear l2 l2f l1 l4 l5 HM HSR Ϫ ϫ HM3 Xo Ϭ JS yj Ϩ qP ϩ h10;go_wp2_with fail;refine aP (HDA.out _) λw11 SU=>?_
     have h11:=GY.out.more SU;unfold datum An.val;clear SU HDA;obtain⟨⟨⟨f0,f1,f2⟩,y0,y1,y2⟩,hA⟩:=dy h11;have HA:=af hA;clear hA h11 GY;go_wp2_with fail;exact bm (HA.out _ _ _) rfl rfl rfl
   ·rw[if_neg he,if_neg he]
    obtain⟨E,Dp⟩:∃ E,grE (W.x o.t o.n) C G=E:=⟨_,rfl⟩
    have BP:=af Dp;rw[Dp] at he ⊢;have bE:(E != 0)=true:=by simp[he]
    have Kq:=af (show (mI (W.x o.t o.n) C G).length=8 from by
     have e:mI (W.x o.t o.n) C G=W.x o.t o.n:=by unfold mI;rw[Dp,if_neg he]
     rw[e];exact(hlt.wf o.t o.n).len)
    unfold Op.val An.val wrong ptr;clear h h1 hlt hL ho hn hi hm OJ GI hT hk AG hb q1 q2 hE hV hG JQ YS YG he Dp t1 Ϧ y1' y2' y3' y1 y2 y3 hCT LM yZ hO hC hK;go_enter func45,ntmps45;go_wp2_with fail;refine bH uE.out ?_;clear uE;go_wp2_with fail;go_quiet (fail);have jD:aF v1 (v1.drewN nq):=below_drewN (aes _ _) nq;have Gm:=af (qm.out _ jD);obtain⟨_,⟨m1,m2,m4⟩,_⟩:=nO.out _ jD;have Db:=af jD;clear jD k0 k1 k2 k3 k4 c1 c2 c4;go_wp2_with fail;refine aP Gm.out λw5 dT=>?_
    have dT:=aH Db.out dT;obtain⟨⟨d0,d1,d2,d3⟩,⟨m1,m2,m4⟩,⟨x1,x2,x3⟩⟩:=nO.out _ dT;have Ox:=af dT;have T_:=af (HGN.out w5.drew dT.drew);have hgr:=FH C G ((HO.out.below dT).below (Below.drew (aes _ _))) (by rw[HWF.out.len];omega);rw[BP.out] at hgr;have NS:=af hgr;clear dT hgr Gm Db qm HGN;go_wp2_with fail
    go_region_held3 (λU=>(U.cell? ⟨wb,1,none⟩=some (am (some ⟨gX,0,none⟩) n' cX)/\U.cell? ⟨gX,Xh,none⟩=some (am (some ⟨gr,0,none⟩) n' cr)/\U.cell? ⟨gr,jb,none⟩=some u)/\(U.cell? ⟨q0,1,none⟩=some (Z ag o.t)/\U.cell? ⟨q0,4,none⟩=some (Z ag o.n))/\(U.cell? ⟨mb,1,none⟩=some (ai (some ⟨jd,0,none⟩))/\U.cell? ⟨jd,5,none⟩=some (ai (some ⟨jc,0,none⟩))/\U.cell? ⟨jc,0,none⟩=some (ai (some ⟨jf,0,none⟩)))) (first | exact⟨⟨d0,d1,d2⟩,⟨m1,m4⟩,⟨x1,x2,x3⟩⟩ | exact⟨⟨g0,g1,g2⟩,⟨i1,i4⟩,⟨j1,j2,j3⟩⟩)
     (first
      | (go_at_call 112;refine bH T_.out ?_)
      | (go_at_call 111;refine NS.out.mono ?_;rintro e w7 ⟨v,rfl,hv,hf⟩;obtain⟨Av,cv,eN,ϧ,acN,_⟩:=hv.form;rw[Kq.out] at eN ϧ;subst eN;have lg:=Ox.out.trans (((Below.drew (aes _ _)).trans hf.2).mono Ox.out.size);obtain⟨⟨g0,g1,g2,g3⟩,⟨i1,i2,i4⟩,⟨j1,j2,j3⟩⟩:=nO.out _ lg;have H7:=af (H1.out.more lg);clear hv hf lg))
    clear d0 d1 d2 d3 m1 m2 m4 x1 x2 x3 j1 j2 j3 i1 i2 i4 g0 g1 g2 g3 T_ NS Ox nO HC HO Dx HK H1;go_wp2_with fail;refine aP (bz E _) λw9 dI=>?_
    have h9:=H7.out.more dI;unfold Tn.wrong An.val;clear dI;obtain⟨⟨⟨f0,f1,f2⟩,y0,y1,y2⟩,hA⟩:=dy h9;have HA:=af hA;clear hA h9;go_wp2_with fail;exact bm (HA.out _ _ _) rfl rfl rfl
  ·obtain⟨E,Dp⟩:∃ E,fh τ.x o.t τ.s o.w=E:=⟨_,rfl⟩
   have q1:GZ W o τ=wrong E:=by unfold GZ;rw[if_pos hb,if_neg hE,Dp]
   have q2:Cc W o τ=W:=by unfold Cc;rw[if_neg (λe=>hE e.2.1)]
   rw[q1,q2];have YS:=qm.out;rw[Dp] at YS hE;have qm:=af YS;have bE:(E != 0)=true:=by simp[hE]
   unfold Op.val An.val wrong ptr;clear h h1 hlt hL ho hn hi hm OJ GI hT hk AG hb q1 q2 hE YS Dp t1 Ϧ y1' y2' y3' y1 y2 y3 hCT LM yZ hO hC hK;go_enter func45,ntmps45;go_wp2_with fail;refine bH uE.out ?_;clear uE;go_wp2_with fail;go_quiet (fail);have jD:aF v1 (v1.drewN nq):=below_drewN (aes _ _) nq;have Gm:=af (qm.out _ jD);obtain⟨_,⟨m1,m2,m4⟩,_⟩:=nO.out _ jD;have Db:=af jD;clear jD k0 k1 k2 k3 k4 c1 c2 c4;go_wp2_with fail;refine aP Gm.out λw5 dT=>?_
   have H5:=af (H1.out.more (aH Db.out dT));clear dT Gm Db qm nO HC HO Dx HK H1 m1 m2 m4;go_wp2_with fail;refine aP (bz E _) λw9 dI=>?_
   have h9:=H5.out.more dI;unfold Tn.wrong An.val;clear dI;obtain⟨⟨⟨f0,f1,f2⟩,y0,y1,y2⟩,hA⟩:=dy h9;have HA:=af hA;clear hA h9;go_wp2_with fail;exact bm (HA.out _ _ _) rfl rfl rfl
end
end Wl
end Go.Proofs.YtdhgpmndgcggfaaGreatDoor
