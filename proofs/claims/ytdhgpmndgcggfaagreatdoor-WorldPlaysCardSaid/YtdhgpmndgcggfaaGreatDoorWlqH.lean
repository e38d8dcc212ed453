/- The document -/
import Derived.Test.YtdhgpmndgcggfaaGreatDoorPZ
set_option maxRecDepth 100000
set_option maxHeartbeats 6400000
namespace Go.Proofs.YtdhgpmndgcggfaaGreatDoor
open _root_.Go.Proofs.Tryz
open Lib renaming hid → af
open Value renaming int → Z
namespace Wl
open Hp Tn Px Go.RowKit
attribute [local go_sem ↓] Go.wp_at_zero Go.wp_at_succ
section
variable {F0:List Nat}{w0 w w':World}{wb:Nat}{W:Ws}{ts ts':List Part}{o:Op}{τ:Wt}
theorem Ua (h:DW F0 w0 wb W ts w)(hlt:qd W)(hL:W.l.length<=1000)(hn:W.t.length<=16)(hT:kC W o.t=true) :
  aG 47 #[ptr wb,o.val] w (G0 W o).val λw'=>DW F0 w0 wb (Cd W o) ts w':=by
 obtain⟨v0,q0,v1,p,fS,jT,n_,hp,h1⟩:=kV h o;have hk:=h1.nG;have c1:=hk.cell (i:=1) rfl;have c4:=hk.cell (i:=4) rfl;obtain⟨nb,AG⟩:∃ b,kC W o.n=b:=⟨_,rfl⟩
 have uE:=af (Ou h1 o.n AG);cases hb:g_ W o.t o.n
 ·have q1:G0 W o=wrong 3:=by unfold G0;rw[hb];rfl
  have q2:Cd W o=W:=by unfold Cd;rw[hb];rfl
  rw[q1,q2];have py:nb=false\/nb=true/\(o.n == o.t)=true:=by
   unfold g_ at hb;rw[AG] at hb;cases nb
   ·exact Or.inl rfl
   ·exact Or.inr ⟨rfl,by simpa using hb⟩
  have H1:=af h1;unfold Op.val ptr;clear h h1 hlt hL hn hT hk AG hb q1 q2;rcases py with rfl | ⟨rfl,e1⟩
  all_goals
   go_enter func47,ntmps47;go_wp2_with fail;refine bH uE.out ?_;clear uE;go_wp2_with fail;refine aP (bz 3 _) λw3 dj=>?_
   have h3:=H1.out.more dj;unfold Tn.wrong An.val;clear dj;obtain⟨⟨⟨f0,f1,f2⟩,z0,z1,z2⟩,hA⟩:=dy h3;have HA:=af hA;clear hA h3;go_wp2_with fail;refine bodyPost_ret (results_cell_row rfl _ _ p 37 _ (0,0) _ rfl (HA.out _ _ _).1 underlying37 rfl (by kernel_rfl)) rfl ⟨rfl,(HA.out _ _ _).2⟩
 ·obtain⟨t1,Ϧ⟩:=oR hb
  obtain rfl:nb=true:=by rw[<- AG];exact t1
  have e1:(o.n == o.t)=false:=by simpa using λe:o.n=o.t=>Ϧ e.symm
  have hno:=oS t1;have hto:=oS hT;have HBD:=af (show (1<=o.n/\o.n<=16)/\1<=o.t/\o.t<=16 by omega);have MV:=af (λ(h:W.l.any (sR o.t o.n)=false)=>show G0 W o=wrong 9/\Cd W o=W from by
   obtain⟨f1,f2⟩:=Xi h;refine⟨?_,?_⟩
   ·unfold G0;rw[if_pos hb,f1]
   ·unfold Cd;rw[if_pos hb,f2])
  have Ϯ:=af (λ(j:Nat) (y:Lt) (hj:W.l[j]?=some y) (h:(W.l.take j).any (sR o.t o.n)=false) (hy:sR o.t o.n y=true)=>show (G0 W o=⟨0,2,UW o.t (8 * (o.n - 1)+y.en) y.ge⟩/\Cd W o=⟨W.t,W.x,([]++W.l.take j)++W.l.drop (j+1)⟩)/\(0<=y.en/\y.en<=7)/\1<=y.ge/\y.ge<=4294967295 from by
   obtain⟨f1,f2⟩:=Gj hj h hy;obtain⟨_,_,_,g4,g5⟩:=FM hlt f1;refine⟨⟨?_,?_⟩,g4,g5⟩
   ·unfold G0;rw[if_pos hb,f1]
   ·unfold Cd;rw[if_pos hb,f2];rfl)
  have H1:=af h1;have hlen:W.l.length<=1000:=hL;unfold Op.val ptr;clear h h1 hlt hL hn hT hk AG hb t1 Ϧ hno hto;go_enter func47,ntmps47;go_wp2_with fail;refine bH uE.out ?_;clear uE;go_wp2_with fail
  go_loopw [6] (λs6 wx=>∃ j:Nat,j<=W.l.length/\s6 = Z .i64 j/\Aside ((W.l.take j).any (sR o.t o.n)=false)/\Aside (DW F0 w0 wb W (YP p::aQ q0 41 o.cells::ts) wx)) (λs6 _=>W.l.length - (RowKit.intOf s6).toNat)
  case atStart=>exact⟨0,by omega,rfl,rfl,H1.out⟩
  case round =>
   obtain⟨j,hj,rfl,hA,hS⟩:=hrel;clear H1 c1 c4;obtain⟨A,cap,l2c,hcap,U3,hat⟩:=LI hS.out;have HA:=af hA.out;by_cases yI:j<W.l.length
   ·obtain⟨y,hy⟩:∃ y,W.l[j]?=some y:=⟨_,List.getElem?_eq_getElem yI⟩
    obtain⟨gl,rfl,wG,y0,y1,y2,y3⟩:=hat j y hy;obtain⟨v5,p5,hv5,hp5,h5⟩:∃ v5 p5,wr.alloc (.cells #[Z .i64 y.rc,Z .i64 y.fr,Z .i64 y.en,Z .i64 y.ge] 171)=v5/\wr.heap.size=p5/\DW F0 w0 wb W (aQ p5 171 [Z .i64 y.rc,Z .i64 y.fr,Z .i64 y.en,Z .i64 y.ge]::YP p::aQ q0 41 o.cells::ts) v5:=⟨_,_,rfl,rfl,hS.out.box _ _⟩
    have k0:=h5.blk.cell (i:=0) rfl;have k1:=h5.blk.cell (i:=1) rfl;have c1:=h5.drop.nG.cell (i:=1) rfl;have c4:=h5.drop.nG.cell (i:=4) rfl;have JP:(j:Int)<W.l.length:=by omega
    have yJ:(W.l.take (j+1)).any (sR o.t o.n)=sR o.t o.n y:=by rw[List.take_add_one,hy,List.any_append,HA.out];simp
    have hlb:sR o.t o.n y=(y.rc == o.t && y.fr == o.n):=rfl;have LJ:=af (yJ.trans hlb);have HJ:=af (And.intro yI hy);have H5:=af h5;clear hS hat hy wG yJ hlb yI h5 hA;cases e0:(y.rc == o.t)
    ·have HY:=af (LJ.out.trans (by rw[e0]))
     go_wp2_with fail;go_roundw
     case rel=>exact⟨j+1,by have:=HJ.out.1;omega,by go_num,HY.out,H5.out.drop⟩
     case measure=>(have:=HJ.out.1;simp[RowKit.intOf];omega)
    ·cases e2:(y.fr == o.n)
     ·have HY:=af (LJ.out.trans (by rw[e0,e2]))
      go_wp2_with fail;go_roundw
      case rel=>exact⟨j+1,by have:=HJ.out.1;omega,by go_num,HY.out,H5.out.drop⟩
      case measure=>(have:=HJ.out.1;simp[RowKit.intOf];omega)
     ·obtain⟨hQ,pW,Uu⟩:=Ϯ.out j y HJ.out.2 HA.out (show (y.rc == o.t && y.fr == o.n)=true by rw[e0,e2];rfl)
      have HQ:=af hQ;obtain⟨uL,G6,LS⟩:=LK H5.out;obtain⟨n2,n2f,aX⟩:=G6 _ (Below.refl _ _);obtain⟨A',cap',rfl,aei,aej,_,hsub⟩:=src_of aX;obtain⟨g,rfl,J6,U7⟩:=hsub j HJ.out.1;obtain⟨AD,hAD⟩:∃ AD:Addr,(if cap'=j+1 then (some ⟨g,0,none⟩:Option Addr) else some ⟨g,(j+1) * 4,none⟩)=some AD:=by
       split
       ·exact⟨_,rfl⟩
       ·exact⟨_,rfl⟩
      rw[hAD] at U7;have Ox:=af H5.out.blk;have JS:=af (λ(U:World) (hU:aF v5 U)=>show U.cell? ⟨wb,2,none⟩=some (.slice (some ⟨g,0,none⟩) W.l.length cap')/\U.frozen? ⟨wb,2,none⟩=false from ⟨(G6 U hU).1,(G6 U hU).2.1⟩);have yj:=af (λ(U:World) (v:Value) (hU:aF v5 U) (hv:JO U v (([]++W.l.take j)++W.l.drop (j+1))) (hg:∀ g,v.ownBlock=some g->v5.heap.size<=g)=>LS hU hv hg);have HM:=af (C0 v5);have Oc:=af (pg J6 (λq v h=>cell_below ((Below.refl _ v5).alloc (Nat.le_refl _) (.cells #[] 171)) q v h));have HSB:=af (λ(U:World) (hU:aF v5 U)=>pg U7 (λq v h=>cell_below hU q v h));have qP:=af (show ([]:List Lt).length+(W.l.take j).length<=10000 by simp;omega);have ϩ:=af (show ([]++W.l.take j).length+(W.l.drop (j+1)).length<=10000 by simp;omega);have HYY:=af (And.intro pW Uu);have hrt:y.rc=o.t:=by simpa using e0
      have hrf:y.fr=o.n:=by simpa using e2
      have vI:wb<v5.heap.size:=World.block_lt_of_cell? v5 ⟨wb,2,none⟩ n2;have hwr:IntKind.i64.wrap ((j:Int)+1)=(j:Int)+1:=by rw[IntKind.wrap_i64];omega
      have hp0:(0:Int)<=(j:Int)+1:=by omega
      have sK:(j:Int)+1<=(W.l.length:Int):=by omega
      have OG:((j:Int)+1).toNat=j+1:=by omega
      have U5:j<=cap':=by omega
      have OH:=af (And.intro hrt hrf);clear G6 LS aX hsub J6 U7 hQ pW Uu hrt hrf LJ MV Ϯ HA HJ;generalize W.l.length=L at *;go_wp2_with fail
      go_region_law (first
       | (refine dS (by rfl) (.tmp 53) (.tmp 59) (by rfl) (g0:=v5.heap.size) (n0:=0) (c0:=0) (by simp[Act.eval,Act.put]) HM.out (Nat.le_refl _) (A:=some ⟨g,0,none⟩) (m:=j) (c:=cap') (by simp[Act.eval,Act.put]) Oc.out qP.out ?_;intro n9 g9 c9 w9 C4 mC dI Aj;have sT:aF v5 w9:=((Below.refl _ v5).alloc (Nat.le_refl _) (.cells #[] 171)).drew.trans dI;obtain⟨a2,ϭ⟩:=JS.out w9 sT;have abS:=af (HSB.out w9 sT);have LN:=af sT;have oe:wb<w9.heap.size:=World.block_lt_of_cell? w9 ⟨wb,2,none⟩ a2;have JU:=af (And.intro mC Aj);clear sT dI Aj mC C4)
       | (refine dS (by rfl) (.tmp 60) (.tmp 67) (by rfl) (g0:=g9) (n0:=n9) (c0:=c9) (by simp[Act.eval,Act.put]) JU.out.1 JU.out.2 (A:=some AD) (m:=L - (j+1)) (c:=cap' - (j+1)) (by simp[Act.eval,Act.put]) abS.out ϩ.out ?_;intro n10 g10 c10 w10 JV pj ym JW;have qe:aF v5 w10:=LN.out.trans ym;obtain⟨b2,b2f⟩:=JS.out w10 qe;have HBT:=af (Ox.out.below qe Ox.out.lt);have HF:=af (yj.out w10 _ qe pj (λg hg=>by simp[Value.ownBlock] at hg;omega));clear qe ym JW pj JV))
      all_goals
       have h11:=HF.out;have m0:=HBT.out.cell (i:=0) rfl;have m1:=HBT.out.cell (i:=1) rfl;have m2:=HF.out.blk.cell (i:=2) rfl;have m3:=HBT.out.cell (i:=3) rfl;have hr:Hn.aK 2 y.rc (8 * (o.n - 1)+y.en) y.ge=true:=by have:=HBD.out;have:=HYY.out;have:=OH.out.1;unfold Hn.aK Hn.aY;simp only[Bool.and_eq_true,decide_eq_true_eq];omega
       have HE:=af (λ(ix:Int) (v:World) (hx:ix=8 * (o.n - 1)+y.en)=>show aG 115 #[.agg #[Z .i64 2,Z .i64 y.rc,Z .i64 ix,Z .i64 y.ge]] v (.tuple #[Z .u64 (UW o.t (8 * (o.n - 1)+y.en) y.ge),Z .i64 0]) λw'=>aF v w' from by
        rw[hx];have:=Hn.vj 2 y.rc (8 * (o.n - 1)+y.en) y.ge v;unfold Hn.ie Hn.iN Hn.encZ at this;rw[if_pos hr,if_pos hr] at this;unfold Hn.j0 at this;have e:1152921504606846976 * (y.rc - 1)+288230376151711744 * 2+4294967296 * (8 * (o.n - 1)+y.en)+y.ge=UW o.t (8 * (o.n - 1)+y.en) y.ge:=by rw[OH.out.1];unfold UW;omega
        rw[e] at this;exact this)
       have RU:=af h11;have hfn:y.fr=o.n:=OH.out.2;rw[hfn] at m1;have nR:1<=o.n/\o.n<=16:=HBD.out.1;have heb:0<=y.en/\y.en<=7:=HYY.out.1;obtain⟨PW,hPW⟩:∃ PW,UW o.t (8 * (o.n - 1)+y.en) y.ge=PW:=⟨_,rfl⟩
       rw[hPW] at HE;have HPW:=af hPW;clear h11 hr HF HM Oc HSB abS LN JU JS yj qP ϩ n2 n2f a2 ϭ b2 b2f k0 k1 c1 c4 y0 y1 y2 y3 hPW;go_wp2_with fail;refine(HE.out _ _ (by first | omega | (simp only[IntKind.wrap_i64];omega))).mono ?_;rintro e w12 ⟨rfl,abT⟩;have h12:=(RU.out.more abT).drop;clear abT RU HE HBT m0 m1 m2 m3;obtain⟨⟨⟨f0,f1,f2⟩,x0,x1,x2⟩,hA⟩:=dy h12;have HA:=af hA;clear hA h12;go_wp2_with fail;refine bodyPost_ret (results_cell_row rfl _ _ p 37 _ (0,0) _ rfl (HA.out _ _ _).1 underlying37 rfl (by kernel_rfl)) rfl ?_;rw[HQ.out.1,HQ.out.2,<- HPW.out];exact⟨rfl,(HA.out _ _ _).2⟩
   ·have hje:j=W.l.length:=by omega
    have JP:¬ (j:Int)<W.l.length:=by omega
    have HQ:=af (MV.out (by have:=HA.out;rwa [hje,List.take_length] at this));have HS:=af hS.out;clear hS hat hje hA MV Ϯ yI;go_wp2_with fail;refine aP (bz 9 _) λw3 dj=>?_
    have h3:=HS.out.more dj;unfold Tn.wrong An.val;clear dj;obtain⟨⟨⟨f0,f1,f2⟩,z0,z1,z2⟩,hA⟩:=dy h3;have HA:=af hA;clear hA h3 HS;go_wp2_with fail;refine bodyPost_ret (results_cell_row rfl _ _ p 37 _ (0,0) _ rfl (HA.out _ _ _).1 underlying37 rfl (by kernel_rfl)) rfl ?_;rw[HQ.out.1,HQ.out.2];exact⟨rfl,(HA.out _ _ _).2⟩
end
end Wl
end Go.Proofs.YtdhgpmndgcggfaaGreatDoor
