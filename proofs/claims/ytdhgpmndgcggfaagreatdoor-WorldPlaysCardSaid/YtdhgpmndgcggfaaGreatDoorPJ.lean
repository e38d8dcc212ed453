/- Cells: how m -/
import Derived.Test.YtdhgpmndgcggfaaGreatDoorPI
set_option maxRecDepth 100000
set_option maxHeartbeats 3200000
namespace Go.Proofs.YtdhgpmndgcggfaaGreatDoor
open _root_.Go.Proofs.Tryz
open Lib renaming hid → af
open Value renaming int → Z, pointer → ai, slice → am, tuple → ao, agg → au
open IntKind renaming i64 → ag, u64 → ah
open Go renaming World → av, Value → az
open Obj renaming cells → aA
open List renaming getElem?_eq_some_iff → aC, getElem?_eq_getElem → aD, mem_of_getElem? → aE, length_append → aeu, take_length → aeF
open And renaming intro → aen
open RowKit renaming intOf → aeI
attribute [local go_sem ↓] Go.wp_at_zero Go.wp_at_succ
section
open Go.RowKit
def Tk (t t' k:Int):Prop:=∃ d:Int,0<=d/\d<=k/\wrap64 t'=wrap64 (t+d)
theorem Tk.refl {t k:Int}(h:0<=k):Tk t t k:=⟨0,Int.le_refl _,h,by rw[Int.add_zero]⟩
theorem Tk.trans {t t1 t2 a b:Int}(h:Tk t t1 a)(h':Tk t1 t2 b):Tk t t2 (a+b):=by obtain⟨d,h1,h2,h3⟩:=h;obtain⟨d',h4,h5,h6⟩:=h';refine⟨d+d',by omega,by omega,?_⟩;unfold wrap64 at *;omega
theorem Tk.more {t t' k k':Int}(h:Tk t t' k)(hk:k<=k'):Tk t t' k':=by obtain⟨d,h1,h2,h3⟩:=h;exact⟨d,h1,by omega,h3⟩
theorem Tk.tc {t n:Int}(_:aI t)(hn:0<=n):Tk t (Zi true t n) n:=by unfold Zi;rw[if_pos rfl];refine⟨n,hn,Int.le_refl _,?_⟩;unfold wrap64;omega
namespace ca
section
variable {w w' w1:av}{kb fb cb ab ac bs:Nat}{v:Nat->az}{x:Sh}{cs:List St}{p:Nat->List Int}{L:List Int}{t t1:Int}{ct:List Int}{vs:List (List Vl)}{L0:List Int}
theorem Yp (a:Int)(q:Nat)(ha:a=q)(h:bQ w kb fb cb v ab ac x bs cs p L t)(hq:q<L.length) :
  aG 184 #[ai (some ⟨ab,0,none⟩),Z ag a] w (ao #[Z ah (L[q]?.getD 0),Z ag 0]) λw'=>∃ t',bQ w' kb fb cb v ab ac x bs cs p L t'/\Only [ab,ac] w w'/\Tk t t' (1):=by
 subst ha;have hl:=h.ar.len;have ho:okB L q 1=true:=zw (by omega);refine(DV ab ac L t q w h.ar (by omega)).mono λe w' ⟨he,ha,hO⟩=>⟨?_,_,h.arena ha hO rfl,hO,by rw[ho];exact Tk.tc h.ar.tok (by omega)⟩
 rw[he,ho];simp[Zh,ho,erV]
theorem writeT (a:Int)(q:Nat)(y:Int)(ha:a=q)(h:bQ w kb fb cb v ab ac x bs cs p L t)(hq:q<L.length) :
  aG 245 #[ai (some ⟨ab,0,none⟩),Z ag a,Z ah y] w (Z ag 0) λw'=>∃ t',bQ w' kb fb cb v ab ac x bs cs p (L.set q y) t'/\Only [ab,ac] w w'/\Tk t t' (1):=by
 subst ha;have hl:=h.ar.len;have ho:okB L q 1=true:=zw (by omega);have hw:Vp L q y=L.set q y:=by simp[Vp,ho]
 refine(write_any ab ac L t q y w h.ar (by omega)).mono λe w' ⟨he,ha,hO⟩=>⟨?_,_,h.arena (hw ▸ ha) hO (by simp),hO,by rw[ho];exact Tk.tc h.ar.tok (by omega)⟩
 rw[he,ho];rfl
theorem aa0 (a b:Int)(q n:Nat)(ha:a=q)(hb:b=n)(h:bQ w kb fb cb v ab ac x bs cs p L t)(hq:q+n<=L.length) :
  aG 246 #[ai (some ⟨ab,0,none⟩),Z ag a,Z ag b] w (Z ag 0) λw'=>∃ t',bQ w' kb fb cb v ab ac x bs cs p (zeros L q n) t'/\Only [ab,ac] w w'/\Tk t t' (n):=by
 subst ha hb;have hl:=h.ar.len;have ho:okB L q n=true:=zw (by omega);have hw:P8 L q n=zeros L q n:=by simp[P8,ho]
 refine(DX ab ac L t q n w h.ar (by omega)).mono λe w' ⟨he,ha,hO⟩=>⟨?_,_,h.arena (hw ▸ ha) hO (zeros_length _ _ _),hO,by rw[ho];exact Tk.tc h.ar.tok (by omega)⟩
 rw[he,ho];rfl
theorem aa1 (i:Nat)(z:St)(h:bQ w kb fb cb v ab ac x bs cs p L t)(hz:cs[i]?=some z)(hg:0<=z.g/\z.g<=4294967295) :
  aG 196 #[ai (some ⟨kb,0,none⟩),Z ag i] w (ao #[]) λw'=>∃ t',bQ w' kb fb cb v ab ac x bs cs p (vy x bs L i z.g z.t) t'/\Only [ab,ac] w w'/\Tk t t' (5):=by
 have hi:i<x.n:=by have:=(aC.1 hz).1;have:=h.len;omega
 have hs:=h.small;have eT:=Sh.at_in h.may hi;have jS:=h.fit;have ig:(i:Int)<=9223372036854775807:=by omega
 have lm:=mP hz;have mE:=fN hz;obtain⟨J8,he2⟩:=Ia (u:=z.t) (show Hd.aK z.g 0=true by rw[ti hg];decide);have hsl:kz x i=x.sl i:=gq hi;have hs4:=(Sh.gm h.may i).2.1;have Qb:bs+x.at_ i+1+x.sl i<=L.length:=by omega
 have Vt:bs+x.at_ i+1<=70000:=by omega
 have HD:=af (show vy x bs L i z.g z.t=zeros (L.set (bs+x.at_ i) (Hd.encZ z.g 0 z.t)) (bs+x.at_ i+1) (x.sl i) from rfl);have c0:=h.cells.1;have c1:=h.cells.2.1;generalize vy x bs L i z.g z.t=LL at *;generalize hE:Hd.encZ z.g 0 z.t=E at *;go_enter func196,ntmps196;go_wp2_with fail
 go_region_held3 (λW=>W.cell? ⟨kb,0,none⟩=some (ai (some ⟨fb,0,none⟩))) (first | exact c0 | exact(bQ.cells (by assumption)).1)
  (first
   | (go_at_call 212;refine(j8 _ h.fr.drew).mono ?_;rw[lm];rintro e w3 ⟨rfl,rfl⟩)
   | (go_at_call 134;refine(fL _ h.fr.drew).mono ?_;rw[mE];rintro e w3 ⟨rfl,rfl⟩)
   | (go_at_call 244;refine(Hd.eS z.g 0 z.t _).mono ?_;rw[J8,he2];rintro e w4 ⟨rfl,jD⟩;have h4:=h.drew.more jD))
 have hO4:Only [ab,ac] w w4:=Only.of_below (eL jD);have c1':=h4.cells.2.1;have qn:bs+x.at_ i<L.length:=by omega
 have hq2:bs+x.at_ i+1+x.sl i<=(L.set (bs+x.at_ i) E).length:=by rw[List.length_set];exact Qb
 generalize hqq:x.at_ i=q at *;have HQ:=af hqq;go_wp2_with fail
 go_region_held3 (λW=>W.cell? ⟨kb,1,none⟩=some (ai (some ⟨ab,0,none⟩))) (first | exact c1' | exact(bQ.cells (by assumption)).2.1)
  (first
   | (go_at_call 185;refine(lq i h4.drew hi).mono ?_;rw[HQ.out];rintro e w5 ⟨rfl,dT⟩;have h5:=h4.drew.more dT)
   | (go_at_call 245;refine(writeT _ (bs+q) E rfl h5 qn).mono ?_;rintro e w6 ⟨rfl,t6,h6,uH,ND⟩))
 have Zl:=h6.cells.2.1;have tj:Only [ab,ac] w w6:=(hO4.trans (Only.of_below (S:=[ab,ac]) (eL dT)) (by simp)).trans uH (by simp);generalize L.set (bs+q) E=L1 at *;have ig:(i:Int)<=9223372036854775807:=by omega
 go_wp2_with fail
 go_region_held3 (λW=>W.cell? ⟨kb,1,none⟩=some (ai (some ⟨ab,0,none⟩))) (first | exact Zl | exact(bQ.cells (by assumption)).2.1)
  (first
   | (go_at_call 185;refine(lq (L:=L1) (t:=t6) i (by first | exact h6.drew | exact h8) hi).mono ?_;rw[HQ.out];rintro e w7 ⟨rfl,lg⟩;have h7:bQ w7 kb fb cb v ab ac x bs cs p L1 t6:=(by first | exact h8.more lg | exact h6.drew.more lg))
   | (go_at_call 131;refine(gu (L:=L1) (t:=t6) i (by first | exact h6.drew | exact h7) ig).mono ?_;rw[hsl];rintro e w8 ⟨rfl,GH⟩;have h8:bQ w8 kb fb cb v ab ac x bs cs p L1 t6:=(by first | exact h7.more GH | exact h6.drew.more GH))
   | (go_at_call 246;refine(aa0 _ _ (bs+q+1) (x.sl i) (L:=L1) (t:=t6) (by rw[IntKind.wrap_i64];omega) rfl (by first | exact h8 | exact h7) hq2).mono ?_;rintro e w9 ⟨rfl,t9,h9,hO9,Z1⟩))
 have Zm:Only [ab,ac] w6 w9:=by
  have:aF w6 w8:=by first | exact aH (eL lg) GH | exact aH (eL GH) lg
  exact(Only.of_below (S:=[ab,ac]) this).trans hO9 (by simp)
 go_wp2_with fail
 go_end0
 exact⟨rfl,t9,by rw[HD.out];exact h9,tj.trans Zm (by simp),(ND.trans Z1).more (by omega)⟩
theorem aa2 (n:Int)(h:bQ w kb fb cb v ab ac x bs cs p L t)(hr:dd x.n x bs L0 cs ct vs L)(hi:Inv x cs p)(hn:n<=9223372036854775807) :
  aG 125 #[ai (some ⟨kb,0,none⟩),Z ag n] w (ao #[Hd.hdr (bL cs n) (mQ ct n) (aS cs n),Z ag (yu cs n)]) λw'=>∃ t',bQ w' kb fb cb v ab ac x bs cs p L t'/\Only [ab,ac] w w'/\Tk t t' (1):=by
 obtain⟨l1,l2,l3⟩:=hr.len;have hb0:aF w (w.alloc (aA #[Z ag 0,Z ag 0,.bool false] 113)):=(Below.refl _ _).alloc (Nat.le_refl _) _;have kB:bA (w.alloc (aA #[Z ag 0,Z ag 0,.bool false] 113)) w.heap.size 113 [Z ag 0,Z ag 0,.bool false]:=bA.new w _ _;have h0:=h.more hb0;have HH:=af h;have hlt:=h.cQ;cases hb:dk n x.n
 ·obtain⟨e1,e2,e3,e4⟩:=Ic l1 l2 hb
  rw[e1,e2,e3,e4];unfold Hd.hdr;go_enter func125,ntmps125;go_wp2_with fail;refine(jL n h0 hn).mono ?_;rw[hb];rintro e w1 ⟨rfl,aO⟩;have h1:=h0.more aO;have hZ:=kB.below aO kB.lt;have hO:Only [ab,ac] w w1:=Only.of_below (aH hb0 aO);have f0:=hZ.free 0;have f1:=hZ.free 1;have f2:=hZ.free 2;have z0:=hZ.cell (i:=0) rfl;have z1:=hZ.cell (i:=1) rfl;have z2:=hZ.cell (i:=2) rfl;have HR:=af (λa b c=>HH.out.res h1 hO (pE w1 w.heap.size a b c));have HZ:=af hZ;go_wp2_with fail;refine bodyPost_ret (aV rfl _ _ w.heap.size 113 _ (0,0) _ _ rfl rfl (((HZ.out.set 0 _).set 1 _).set 2 _) underlying113 rfl (by kernel_rfl)) rfl ?_;exact⟨rfl,_,(HR.out _ _ _).1,(HR.out _ _ _).2,Tk.refl (by omega)⟩
 ·have eT:=dP hb
  obtain⟨i,rfl⟩:∃ i:Nat,n=i:=⟨n.toNat,by omega⟩
  have od:i<x.n:=by omega
  obtain⟨z,hz⟩:∃ z,cs[i]?=some z:=⟨_,aD (by omega)⟩
  obtain⟨c,hc⟩:∃ c,ct[i]?=some c:=⟨_,aD (by omega)⟩
  have hzi:=hi.cell i z hz;obtain⟨b1,b2,b3,b4⟩:=Ee z.t (g:=z.g) (by omega) (hr.X6 i c hc);rw[mP hz,jo hc,fN hz,Ed l1 od];have hL:=hr.head i z c od hz hc;have qn:=(aC.1 hL).1;have Vt:=h.small;have hval:L[bs+x.at_ i]?.getD 0=Hd.encZ z.g c z.t:=by rw[hL];rfl
  have HV:=af hval;have HE:=af b1;generalize Hd.encZ z.g c z.t=E at *;have HQ:=af qn;unfold Hd.hdr;go_enter func125,ntmps125;go_wp2_with fail;refine(jL i h0 hn).mono ?_;rw[hb];rintro e w1 ⟨rfl,aO⟩;have h1:=h0.more aO;have Ux:=kB.below aO kB.lt;have sN:Only [ab,ac] w w1:=Only.of_below (aH hb0 aO);have c1:=h1.cells.2.1;go_wp2_with fail
  go_region_held3 (λW=>W.cell? ⟨kb,1,none⟩=some (ai (some ⟨ab,0,none⟩))) (first | exact c1 | exact(bQ.cells (by assumption)).2.1)
   (first
    | (go_at_call 185;refine aP (lq i h1.drew od) λw5 dT=>?_;have h5:=h1.drew.more dT)
    | (go_at_call 184;refine(Yp _ (bs+x.at_ i) (by omega) h5 HQ.out).mono ?_;rw[HV.out];rintro e w6 ⟨rfl,t6,h6,uH,ND⟩))
  have tj:Only [ab,ac] w w6:=(sN.trans (Only.of_below (S:=[ab,ac]) (eL dT)) (by simp)).trans uH (by simp);have M7:bA w6 w.heap.size 113 _:=(Ux.drew.below dT Ux.lt).only uH (by have q1:=hlt ab (aW.2 (by simp));have q2:=hlt ac (aW.2 (by simp));simp;omega);go_wp2_with fail;refine(Hd.decode_any _ _ HE.out).mono ?_;unfold Hd.hdr;rw[b2,b3,b4];rintro e w7 ⟨rfl,lg⟩;have hZ:=M7.below lg M7.lt;have f0:=hZ.free 0;have f1:=hZ.free 1;have f2:=hZ.free 2;have z0:=hZ.cell (i:=0) rfl;have z1:=hZ.cell (i:=1) rfl;have z2:=hZ.cell (i:=2) rfl;have h7:=h6.more lg;have Vu:Only [ab,ac] w w7:=tj.trans (Only.of_below (S:=[ab,ac]) lg) (by simp);have HR:=af (λa b c=>HH.out.res h7 Vu (pE w7 w.heap.size a b c));have HZ:=af hZ;go_wp2_with fail;refine bodyPost_ret (aV rfl _ _ w.heap.size 113 _ (0,0) _ _ rfl rfl (((HZ.out.set 0 _).set 1 _).set 2 _) underlying113 rfl (by kernel_rfl)) rfl ?_;exact⟨rfl,_,(HR.out _ _ _).1,(HR.out _ _ _).2,ND⟩
theorem acu (n c:Int)(h:bQ w kb fb cb v ab ac x bs cs p L t)(hr:dd x.n x bs L0 cs ct vs L)(hi:Inv x cs p)(hn:n<=9223372036854775807) :
  aG 250 #[ai (some ⟨kb,0,none⟩),Z ag n,Z ag c] w (Z ag (KA cs n c)) λw'=>∃ t' L',bQ w' kb fb cb v ab ac x bs cs p L' t'/\dd x.n x bs L0 cs (OW cs ct n c) vs L'/\Only [ab,ac] w w'/\Tk t t' (1):=by
 obtain⟨l1,l2,l3⟩:=hr.len;cases hb:dk n x.n
 ·obtain⟨e1,e2⟩:=Zn (ct:=ct) (c:=c) l1 hb
  rw[e1,e2];have HR:=af hr;go_enter func250,ntmps250
  go_wp2_with (go_at_call 183;refine(jL n h hn).mono ?_;rw[hb];rintro e w1 ⟨rfl,aO⟩)
  go_ret;exact⟨rfl,_,_,h.more aO,HR.out,Only.of_below aO,Tk.refl (by omega)⟩
 ·have eT:=dP hb
  obtain⟨i,rfl⟩:∃ i:Nat,n=i:=⟨n.toNat,by omega⟩
  have od:i<x.n:=by omega
  obtain⟨z,hz⟩:∃ z,cs[i]?=some z:=⟨_,aD (by omega)⟩
  have hzi:=hi.cell i z hz;have hg:=mP hz;have hR:=ti (g:=z.g) (c:=c) (by omega);have HR:=af hr;have HI:=af hi;cases hc:decide (0<=c/\c<=2147483647)
  ·obtain⟨e1,e2⟩:=Zo (cs:=cs) (ct:=ct) (n:=i) hc
   obtain⟨k1,k2⟩:=Zk (u:=true) (hR.trans hc);rw[e1,e2];go_enter func250,ntmps250
   go_wp2_with (first
    | (go_at_call 183;refine(jL i h hn).mono ?_;rw[hb];rintro e w1 ⟨rfl,aO⟩;have h1:=h.more aO;have c0:=h1.cells.1)
    | (go_at_call 212;refine(j8 _ h1.fr).mono ?_;rw[hg];rintro e w3 ⟨rfl,rfl⟩)
    | (go_at_call 244;refine(Hd.eS z.g c true _).mono ?_;rw[k1,k2];rintro e w4 ⟨rfl,jD⟩))
   go_ret;exact⟨rfl,_,_,h1.more jD,HR.out,Only.of_below (aH aO jD),Tk.refl (by omega)⟩
  ·have OI:0<=c/\c<=2147483647:=of_decide_eq_true hc
   obtain⟨k1,k2⟩:=Ia (u:=true) (hR.trans hc);have mE:=fN hz;cases ht:z.t
   ·obtain⟨e1,e2⟩:=Vv (ct:=ct) l1 hb hc (mE.trans ht)
    rw[ht] at mE;rw[e1,e2];go_enter func250,ntmps250
    go_wp2_with (first
     | (go_at_call 183;refine(jL i h hn).mono ?_;rw[hb];rintro e w1 ⟨rfl,aO⟩;have h1:=h.more aO;have c0:=h1.cells.1)
     | (go_at_call 212;refine(j8 _ h1.fr).mono ?_;rw[hg];rintro e w3 ⟨rfl,rfl⟩)
     | (go_at_call 244;refine(Hd.eS z.g c true _).mono ?_;rw[k1,k2];rintro e w4 ⟨rfl,jD⟩;have h4:=h1.more jD;have c0':=h4.cells.1)
     | (go_at_call 134;refine(fL _ h4.fr).mono ?_;rw[mE];rintro e w3 ⟨rfl,rfl⟩))
    go_ret;exact⟨rfl,_,_,h4,HR.out,Only.of_below (aH aO jD),Tk.refl (by omega)⟩
   ·obtain⟨e1,e2⟩:=Zp (ct:=ct) l1 hb hc (mE.trans ht)
    rw[e1,e2];have zk:=hr.count hz ht c OI;rw[ht] at mE zk;rw[show ((i:Int)).toNat=i from rfl];have HC:=af zk;have hq:bs+x.at_ i<L.length:=by have:=Sh.at_in h.may od;have:=h.fit;omega
    have Vt:=h.small;have HQ:=af hq;generalize Hd.encZ z.g c true=E at *;go_enter func250,ntmps250
    go_wp2_with (first
     | (go_at_call 183;refine(jL i h hn).mono ?_;rw[hb];rintro e w1 ⟨rfl,aO⟩;have h1:=h.more aO;have c0:=h1.cells.1)
     | (go_at_call 212;refine(j8 _ h1.fr).mono ?_;rw[hg];rintro e w3 ⟨rfl,rfl⟩)
     | (go_at_call 244;refine(Hd.eS z.g c true _).mono ?_;rw[k1,k2];rintro e w4 ⟨rfl,jD⟩;have h4:=h1.more jD;have c0':=h4.cells.1)
     | (go_at_call 134;refine(fL _ h4.fr).mono ?_;rw[mE];rintro e w3 ⟨rfl,rfl⟩))
    have hO4:Only [ab,ac] w w4:=Only.of_below (aH aO jD);have c1:=h4.cells.2.1
    go_region_held3 (λW=>W.cell? ⟨kb,1,none⟩=some (ai (some ⟨ab,0,none⟩))) (first | exact c1 | exact(bQ.cells (by assumption)).2.1)
     (first
      | (go_at_call 185;refine aP (lq i h4.drew od) λw5 dT=>?_;have h5:=h4.drew.more dT)
      | (go_at_call 245;refine(writeT _ (bs+x.at_ i) E (by omega) h5 HQ.out).mono ?_;rintro e w6 ⟨rfl,t6,h6,uH,ND⟩))
    go_wp2_with fail;go_ret;exact⟨rfl,_,_,h6,HC.out,(hO4.trans (Only.of_below (S:=[ab,ac]) (eL dT)) (by simp)).trans uH (by simp),ND⟩
theorem acv (n k:Int)(h:bQ w kb fb cb v ab ac x bs cs p L t)(hr:dd x.n x bs L0 cs ct vs L)(hn:n<=9223372036854775807) :
  aG 127 #[ai (some ⟨kb,0,none⟩),Z ag n,Z ag k] w (ao #[Wd.val (ij x cs vs n k).k (ij x cs vs n k).n,Z ag (kZ x cs n k)]) λw'=>∃ t',bQ w' kb fb cb v ab ac x bs cs p L t'/\Only [ab,ac] w w'/\Tk t t' (1):=by
 have hb0:aF w (w.alloc (aA #[Z ag 0,Z ah 0] 56)):=(Below.refl _ _).alloc (Nat.le_refl _) _;have kB:bA (w.alloc (aA #[Z ag 0,Z ah 0] 56)) w.heap.size 56 [Z ag 0,Z ah 0]:=bA.new w _ _;have h0:=h.more hb0;have HH:=af h;have hlt:=h.cQ;rcases w_ x bs cs n k with ⟨he,hv⟩ | ⟨he,i,j,rfl,rfl,hi,hj,ht,hv⟩
 ·rw[A7 (λe=>by rw[e] at he;cases he)]
  generalize hE:kZ x cs n k=E at *;have HE:=af hE;unfold Wd.val Vl.nil;go_enter func127,ntmps127;go_wp2_with fail;refine(jm n k h0 hn).mono ?_;rw[hv,HE.out];rintro e w1 ⟨rfl,aO⟩;have h1:=h0.more aO;have hZ:=kB.below aO kB.lt;have hO:Only [ab,ac] w w1:=Only.of_below (aH hb0 aO);have f0:=hZ.free 0;have f1:=hZ.free 1;have z0:=hZ.cell (i:=0) rfl;have z1:=hZ.cell (i:=1) rfl;have HR:=af (λa b=>HH.out.res h1 hO (pF w1 w.heap.size a b));have HZ:=af hZ;have wF:(E != 0)=true:=by simp[bne,he]
  go_wp2_with fail;refine bodyPost_ret (aV rfl _ _ w.heap.size 56 _ (0,0) _ _ rfl rfl ((HZ.out.set 0 _).set 1 _) underlying56 rfl (by kernel_rfl)) rfl ?_;exact⟨rfl,_,(HR.out _ _).1,(HR.out _ _).2,Tk.refl (by omega)⟩
 ·obtain⟨l1,l2,l3⟩:=hr.len
  obtain⟨l,hl⟩:∃ l,vs[i]?=some l:=⟨_,aD (by omega)⟩
  have hls:=hr.slots i l hl;obtain⟨y,hy⟩:∃ y,l[j]?=some y:=⟨_,aD (by omega)⟩
  have aM:=hr.yB i l hl y (aE hy);obtain⟨b1,b2,b3⟩:=KD aM;have hL:=hr.slot i l j y hi hl hy;have qn:=(aC.1 hL).1;have hval:L[bs+x.at_ i+1+j]?.getD 0=y.w:=by rw[hL];rfl
  rw[Ie he hl hy,he];have XZ:=af he;have UQ:=af hv;generalize y.w=E at *;have HV:=af hval;have HE:=af b1;have HQ:=af qn;unfold Wd.val;go_enter func127,ntmps127;go_wp2_with fail;refine(jm i j h0 hn).mono ?_;rw[UQ.out,XZ.out];rintro e w1 ⟨rfl,aO⟩;have h1:=h0.more aO;have Ux:=kB.below aO kB.lt;have sN:Only [ab,ac] w w1:=Only.of_below (aH hb0 aO);have c1:=h1.cells.2.1;go_wp2_with fail;refine(Yp _ (bs+x.at_ i+1+j) (by omega) h1 HQ.out).mono ?_;rw[HV.out];rintro e w6 ⟨rfl,t6,h6,uH,ND⟩;have tj:Only [ab,ac] w w6:=sN.trans uH (by simp);have M7:bA w6 w.heap.size 56 _:=Ux.only uH (by have q1:=hlt ab (aW.2 (by simp));have q2:=hlt ac (aW.2 (by simp));simp;omega);go_wp2_with fail;refine(Wd.decode_any _ _ HE.out).mono ?_;unfold Wd.val;rw[b2,b3];rintro e w7 ⟨rfl,lg⟩;have hZ:=M7.below lg M7.lt;have f0:=hZ.free 0;have f1:=hZ.free 1;have z0:=hZ.cell (i:=0) rfl;have z1:=hZ.cell (i:=1) rfl;have h7:=h6.more lg;have Vu:Only [ab,ac] w w7:=tj.trans (Only.of_below (S:=[ab,ac]) lg) (by simp);have HR:=af (λa b=>HH.out.res h7 Vu (pF w7 w.heap.size a b));have HZ:=af hZ;go_wp2_with fail;refine bodyPost_ret (aV rfl _ _ w.heap.size 56 _ (0,0) _ _ rfl rfl ((HZ.out.set 0 _).set 1 _) underlying56 rfl (by kernel_rfl)) rfl ?_;exact⟨rfl,_,(HR.out _ _).1,(HR.out _ _).2,ND⟩
theorem dh (n k:Int)(y:Vl)(h:bQ w kb fb cb v ab ac x bs cs p L t)(hr:dd x.n x bs L0 cs ct vs L)(hn:n<=9223372036854775807)(hy:0<=y.n) :
  aG 280 #[ai (some ⟨kb,0,none⟩),Z ag n,Z ag k,Wd.val y.k y.n] w (Z ag (KC x cs n k y)) λw'=>∃ t' L',bQ w' kb fb cb v ab ac x bs cs p L' t'/\dd x.n x bs L0 cs ct (OX x cs vs n k y) L'/\Only [ab,ac] w w'/\Tk t t' (1):=by
 have hb0:aF w (w.alloc (aA #[Z ag y.k,Z ah y.n] 56)):=(Below.refl _ _).alloc (Nat.le_refl _) _;have h0:=h.more hb0;have hE:=λW=>Wd.eS y.k y.n W hy
 unfold Wd.val at *;cases hb:Wd.aK y.k y.n
 ·obtain⟨e1,e2⟩:=Qd (x:=x) (cs:=cs) (vs:=vs) (n:=n) (k:=k) hb
  rw[e1,e2];have hE2:Wd.iN y.k y.n=1:=by simp[Wd.iN,hb]
  go_enter func280,ntmps280
  go_wp2_with (go_at_call 303;refine(hE _).mono ?_;rw[hE2];rintro e w1 ⟨rfl,aO⟩)
  go_ret;exact⟨rfl,_,_,h0.more aO,hr,Only.of_below (aH hb0 aO),Tk.refl (by omega)⟩
 ·have hE2:Wd.iN y.k y.n=0:=by simp[Wd.iN,hb]
  rcases w_ x bs cs n k with ⟨he,hv⟩ | ⟨he,i,j,rfl,rfl,hi,hj,ht,hv⟩
  ·obtain⟨e1,e2⟩:=Ig (vs:=vs) hb he
   rw[e1,e2];generalize Dp:kZ x cs n k=E at *;have BP:=af Dp;have wF:(E != 0)=true:=by simp[bne,he]
   go_enter func280,ntmps280
   go_wp2_with (first
    | (go_at_call 303;refine(hE _).mono ?_;rw[hE2];rintro e w1 ⟨rfl,aO⟩;have h1:=h0.more aO)
    | (go_at_call 187;refine(jm n k h1 hn).mono ?_;rw[hv,BP.out];rintro e w2 ⟨rfl,bC⟩))
   go_ret;exact⟨rfl,_,_,h1.more bC,hr,Only.of_below (aH (aH hb0 aO) bC),Tk.refl (by omega)⟩
  ·obtain⟨l1,l2,l3⟩:=hr.len
   obtain⟨l,hl⟩:∃ l,vs[i]?=some l:=⟨_,aD (by omega)⟩
   have hls:=hr.slots i l hl;obtain⟨z,hz⟩:∃ z,cs[i]?=some z:=⟨_,aD (by omega)⟩
   have Hv:z.t=true:=(fN hz).symm.trans ht;have hval:=hr.value hz Hv hl (show j<l.length by omega) y ⟨hy,hb⟩;obtain⟨e1,e2⟩:=Qe hb he hl;rw[e1,e2];have qn:bs+x.at_ i+1+j<L.length:=by have:=Sh.at_in h.may hi;have:=h.fit;omega
   have acw:=af hval;have XZ:=af he;have UQ:=af hv;have HQ:=af qn;have HE1:=af (show Wd.ie y.k y.n=y.w from rfl);generalize y.w=E at *;go_enter func280,ntmps280
   go_wp2_with (first
    | (go_at_call 303;refine(hE _).mono ?_;rw[hE2,HE1.out];rintro e w1 ⟨rfl,aO⟩;have h1:=h0.more aO)
    | (go_at_call 187;refine(jm i j h1 hn).mono ?_;rw[UQ.out,XZ.out];rintro e w2 ⟨rfl,bC⟩;have h2:=h1.more bC;have c1:=h2.cells.2.1)
    | (go_at_call 245;refine(writeT _ (bs+x.at_ i+1+j) E (by omega) h2 HQ.out).mono ?_;rintro e w3 ⟨rfl,t3,h3,hO3,hT3⟩))
   go_ret;exact⟨rfl,_,_,h3,acw.out,(Only.of_below (aH (aH hb0 aO) bC)).trans hO3 (by simp),hT3⟩
theorem aa3 (n:Int)(h:bQ w kb fb cb v ab ac x bs cs p L t)(hr:dd x.n x bs L0 cs ct vs L)(hi:Inv x cs p) :
  aG 317 #[ai (some ⟨kb,0,none⟩),Z ag n] w (ao #[.bool (eX cs n),Z ag (yz cs n)]) λw'=>∃ v' t' L',bQ w' kb fb cb v' ab ac x bs (mG cs n) (qt cs p n) L' t'/\dd x.n x bs L0 (mG cs n) (uI cs ct n) (xa x cs vs n) L'/\Step (ft kb fb cb v ab ac) w (ft kb fb cb v' ab ac) w'/\Tk t t' (5):=by
 have c0:=h.cells.1;have hT:=Vo n h.fr hi;have hlen:=h.len;rcases X7 cs n with ⟨he,aM,i,z,rfl,hz,ht,hC⟩ | ⟨he,aM,hla⟩
 ·have od:i<cs.length:=(aC.1 hz).1
  have hzi:=hi.cell i z hz;have Hv:=hzi.2.2.2.2 ht;have XU:=hr.lay (i:=i) (m':=x.n) (by omega) ⟨z.c,z.g+1,false⟩ (λj hj=>Or.inl hj);have ku:(cs.set i ⟨z.c,z.g+1,false⟩)[i]?=some ⟨z.c,z.g+1,false⟩:=by rw[set_any,if_pos rfl,if_pos od]
  have e1:uI cs ct i=ct.set i 0:=by simp[uI,aM]
  have e2:xa x cs vs i=vs.set i (dM (x.sl i)):=by simp[xa,aM]
  rw[he,hC] at hT;rw[he,hC,e1,e2];have HR:=af XU;have HH:=af h;have C9:(cs.set i ⟨z.c,z.g+1,false⟩).length=cs.length:=by simp
  generalize qt cs p i=P at *;generalize eX cs i=B at *;go_enter func317,ntmps317
  go_wp2_with (first
   | (go_at_call 324;refine hT.mono ?_;rintro e w1 ⟨rfl,v',ze,sN,lS⟩;have h1:=HH.out.list ze sN lS C9;have vI:=HH.out.ry sN lS)
   | (go_at_call 196;refine(aa1 i _ h1 ku ⟨by simp only;omega,by simp only;omega⟩).mono ?_;rintro e w2 ⟨rfl,t2,h2,Da,hT2⟩))
  go_ret2;exact⟨rfl,v',t2,_,h2,HR.out,⟨vI.1.trans (lr (kb:=kb) (fb:=fb) (cb:=cb) (v:=v) Da) (λk hk=>Or.inl hk),vI.2⟩,hT2⟩
 ·have hC:mG cs n=cs:=by simp[mG,aM]
  have hP:qt cs p n=p:=by simp[qt,aM]
  have e1:uI cs ct n=ct:=by simp[uI,aM]
  have e2:xa x cs vs n=vs:=by simp[xa,aM]
  rw[hla,hC,hP] at hT;rw[hla,hC,hP,e1,e2];have HR:=af hr;have HH:=af h;have wF:(yz cs n != 0)=true:=by simp[bne,he]
  generalize yz cs n=E at *;go_enter func317,ntmps317
  go_wp2_with (go_at_call 324;refine hT.mono ?_;rintro e w1 ⟨rfl,v',ze,sN,lS⟩;have h1:=HH.out.list ze sN lS rfl;have vI:=HH.out.ry sN lS)
  go_ret2;exact⟨rfl,v',_,_,h1,HR.out,vI,Tk.refl (by omega)⟩
end
end ca
end
section
namespace Hp
namespace ca
open Go.RowKit
def CET (T K:Int)(kb ab:Nat)(x:Sh)(bs:Nat)(L0:List Int)(cs:List St)(p:Nat->List Int)(ct:List Int)(vs:List (List Vl))(w:av)(F:List Nat):Prop :=∃ fb cb v ac L t,bQ w kb fb cb v ab ac x bs cs p L t/\dd x.n x bs L0 cs ct vs L/\Inv x cs p/\Tk T t K/\F=ft kb fb cb v ab ac
theorem K8 (T K:Int)(kb ab:Nat)(x:Sh)(bs:Nat)(L0:List Int)(cs:List St)(p:Nat->List Int)(ct:List Int)(vs:List (List Vl)):Frm (CET T K kb ab x bs L0 cs p ct vs):=by
 refine⟨λh ho h0 hS=>?_,λh=>?_⟩
 ·obtain⟨fb,cb,v,ac,L,t,hC,hR,hI,hT,rfl⟩:=h
  exact⟨fb,cb,v,ac,L,t,hC.only ho h0 hS,hR,hI,hT,rfl⟩
 ·obtain⟨fb,cb,v,ac,L,t,hC,hR,hI,hT,rfl⟩:=h
  exact hC.cQ
def zL (T K:Int)(kb ab:Nat)(x:Sh)(L0:iR)(cs:List St)(p:Nat->List Int)(ct:List Int)(vs:List (List Vl)):Part:=⟨CET T K kb ab x L0.bs L0.l cs p ct vs,(K8 ..).only,(K8 ..).lt⟩
section
variable {F0:List Nat}{w0 w:av}{rs:List Part}{i:Nat}{kb ab:Nat}{x:Sh}{L0:iR}{cs:List St}{p:Nat->List Int}{ct:List Int}{vs:List (List Vl)}{T K:Int}
variable (h:Sy F0 w0 rs w)(hi:nth rs i=some (zL T K kb ab x L0 cs p ct vs))
include h hi
theorem lH:cs.length=x.n/\ct.length=x.n/\vs.length=x.n/\x.may=true/\Inv x cs p:=by obtain⟨F,⟨fb,cb,v,ac,L,t,hC,hR,hI,_,_⟩,_⟩:=h.at_ hi;exact⟨hR.len.1,hR.len.2.1,hR.len.2.2,hR.may,hI⟩
theorem Ro:Lay w:=by obtain⟨F,⟨fb,cb,v,ac,L,t,hC,hR,hI,_,_⟩,_⟩:=h.at_ hi;exact hC.lay
theorem Yq:(∀ (i:Nat) (l:List Vl),vs[i]?=some l->l.length=x.sl i)/\(∀ (i:Nat) (c:Int),ct[i]?=some c->0<=c/\c<=2147483647)/\(∀ (i:Nat) (l:List Vl),vs[i]?=some l->∀ y ∈ l,y.ok) /\
  (∀ (i:Nat) (z:St),cs[i]?=some z->z.t=false->ct[i]?=some 0/\vs[i]?=some (dM (x.sl i))):=by
 obtain⟨F,⟨fb,cb,v,ac,L,t,hC,hR,hI,_,_⟩,_⟩:=h.at_ hi;exact⟨hR.slots,hR.X6,hR.yB,hR.dead⟩
theorem BG (n:Int)(hn:n<=9223372036854775807){s:Nat}(hs:kz x n=s):aG 131 #[ai (some ⟨kb,0,none⟩),Z ag n] w (Z ag s) λw'=>Sy F0 w0 rs w':=by
 subst hs;exact h.asks hi λF hF=>by
  obtain⟨fb,cb,v,ac,L,t,hC,hR,hI,hT,rfl⟩:=hF;exact gu n hC hn
theorem IH (n:Int)(hn:n<=9223372036854775807){g c e0:Int}{u:Bool}(h1:bL cs n=g)(h2:mQ ct n=c)(h3:aS cs n=u)(h4:yu cs n=e0):aG 125 #[ai (some ⟨kb,0,none⟩),Z ag n] w (ao #[au #[Z ag g,Z ag c,.bool u],Z ag e0]) λw'=>Sy F0 w0 (Hp.put rs i (zL T (K+1) kb ab x L0 cs p ct vs)) w':=by
 subst h1 h2 h3 h4;exact h.does hi λF _ hF=>by
  obtain⟨fb,cb,v,ac,L,t,hC,hR,hI,hT,rfl⟩:=hF;exact(Go.Proofs.YtdhgpmndgcggfaaGreatDoor.ca.aa2 n hC hR hI hn).mono λe w' ⟨he,t',Df,hO,hk⟩=>⟨he,_,⟨fb,cb,v,ac,L,t',Df,hR,hI,hT.trans hk,rfl⟩,Step.same (lr hO)⟩
theorem QW (n k:Int)(hn:n<=9223372036854775807){y:Vl}{e0:Int}(h1:ij x cs vs n k=y)(h2:kZ x cs n k=e0):aG 127 #[ai (some ⟨kb,0,none⟩),Z ag n,Z ag k] w (ao #[au #[Z ag y.k,Z ah y.n],Z ag e0]) λw'=>Sy F0 w0 (Hp.put rs i (zL T (K+1) kb ab x L0 cs p ct vs)) w':=by
 subst h1 h2;exact h.does hi λF _ hF=>by
  obtain⟨fb,cb,v,ac,L,t,hC,hR,hI,hT,rfl⟩:=hF;exact(Go.Proofs.YtdhgpmndgcggfaaGreatDoor.ca.acv n k hC hR hn).mono λe w' ⟨he,t',Df,hO,hk⟩=>⟨he,_,⟨fb,cb,v,ac,L,t',Df,hR,hI,hT.trans hk,rfl⟩,Step.same (lr hO)⟩
theorem Rq (n c:Int)(hn:n<=9223372036854775807):aG 250 #[ai (some ⟨kb,0,none⟩),Z ag n,Z ag c] w (Z ag (KA cs n c)) λw'=>Sy F0 w0 (Hp.put rs i (zL T (K+1) kb ab x L0 cs p (OW cs ct n c) vs)) w' :=
 h.does hi λF _ hF=>by
  obtain⟨fb,cb,v,ac,L,t,hC,hR,hI,hT,rfl⟩:=hF;exact(Go.Proofs.YtdhgpmndgcggfaaGreatDoor.ca.acu n c hC hR hI hn).mono λe w' ⟨he,t',L',Df,hR',hO,hk⟩=>⟨he,_,⟨fb,cb,v,ac,L',t',Df,hR',hI,hT.trans hk,rfl⟩,Step.same (lr hO)⟩
theorem Yr (n k:Int)(y:Vl)(hn:n<=9223372036854775807)(hy:0<=y.n):aG 280 #[ai (some ⟨kb,0,none⟩),Z ag n,Z ag k,au #[Z ag y.k,Z ah y.n]] w (Z ag (KC x cs n k y)) λw'=>Sy F0 w0 (Hp.put rs i (zL T (K+1) kb ab x L0 cs p ct (OX x cs vs n k y))) w' :=
 h.does hi λF _ hF=>by
  obtain⟨fb,cb,v,ac,L,t,hC,hR,hI,hT,rfl⟩:=hF;exact(Go.Proofs.YtdhgpmndgcggfaaGreatDoor.ca.dh n k y hC hR hn hy).mono λe w' ⟨he,t',L',Df,hR',hO,hk⟩=>⟨he,_,⟨fb,cb,v,ac,L',t',Df,hR',hI,hT.trans hk,rfl⟩,Step.same (lr hO)⟩
theorem Z2 (n:Int):aG 317 #[ai (some ⟨kb,0,none⟩),Z ag n] w (ao #[.bool (eX cs n),Z ag (yz cs n)]) λw'=>Sy F0 w0 (Hp.put rs i (zL T (K+5) kb ab x L0 (mG cs n) (qt cs p n) (uI cs ct n) (xa x cs vs n))) w' :=
 h.does hi λF _ hF=>by
  obtain⟨fb,cb,v,ac,L,t,hC,hR,hI,hT,rfl⟩:=hF;exact(Go.Proofs.YtdhgpmndgcggfaaGreatDoor.ca.aa3 n hC hR hI).mono λe w' ⟨he,v',t',L',Df,hR',hO,hk⟩=>⟨he,_,⟨fb,cb,v',ac,L',t',Df,hR',hI.gv n,hT.trans hk,rfl⟩,hO⟩
theorem vX:∃ fb,w.cell? ⟨kb,0,none⟩=some (ai (some ⟨fb,0,none⟩))/\∀ n,aT 134 #[ai (some ⟨fb,0,none⟩),Z ag n] w (.bool (aS cs n)):=by obtain⟨F,⟨fb,cb,v,ac,L,t,hC,hR,hI,hT,rfl⟩,_⟩:=h.at_ hi;exact⟨fb,hC.cells.1,λn=>fL n hC.fr⟩
end
def hp (T K:Int)(I:Ids)(x:Sh)(L0:iR)(s:Hs)(ts:List Part):List Part :=aQ I.h 133 (Q4 I x s.ch)::zL T K I.k I.a x L0 s.cs s.p s.ct s.vs::VN I.ac s.u x.q::II I.r s.r::II I.c s.k::UT I.q s.q::ts
theorem up {F0:List Nat}{w0 w:av}{ts:List Part}{I:Ids}{x:Sh}{L0:iR}{s:Hs}{T K K':Int}(h:Sy F0 w0 (hp T K I x L0 s ts) w)(hK:K<=K'):Sy F0 w0 (hp T K' I x L0 s ts) w:=by obtain⟨F,⟨fb,cb,v,ac,L,t,hC,hR,hI,hT,rfl⟩,_,hk⟩:=h.at_ (i:=1) rfl;exact hk (zL T K' I.k I.a x L0 s.cs s.p s.ct s.vs) w _ ⟨fb,cb,v,ac,L,t,hC,hR,hI,hT.more hK,rfl⟩ (Step.same (Only.refl _ _))
theorem off {F0:List Nat}{w0 w:av}{ts:List Part}{I:Ids}{x:Sh}{L0:iR}{s:Hs}{T K:Int}(h:Sy F0 w0 (hp T K I x L0 s ts) w):Sy F0 w0 (Hp.hp I x L0 s ts) w:=by obtain⟨F,⟨fb,cb,v,ac,L,t,hC,hR,hI,hT,rfl⟩,_,hk⟩:=h.at_ (i:=1) rfl;exact hk (Hp.zL I.k I.a x L0 s.cs s.p s.ct s.vs) w _ ⟨fb,cb,v,ac,L,t,hC,hR,hI,rfl⟩ (Step.same (Only.refl _ _))
theorem on {F0:List Nat}{w0 w:av}{ts:List Part}{I:Ids}{x:Sh}{L0:iR}{s:Hs}(h:Sy F0 w0 (Hp.hp I x L0 s ts) w):∃ T,aI T/\w.cell? ⟨I.a,1,none⟩=some (Z ag T)/\Sy F0 w0 (hp T 0 I x L0 s ts) w:=by obtain⟨F,⟨fb,cb,v,ac,L,t,hC,hR,hI,rfl⟩,_,hk⟩:=h.at_ (i:=1) rfl;exact⟨t,hC.ar.tok,hC.ar.c1,hk (zL t 0 I.k I.a x L0 s.cs s.p s.ct s.vs) w _ ⟨fb,cb,v,ac,L,t,hC,hR,hI,Tk.refl (Int.le_refl _),rfl⟩ (Step.same (Only.refl _ _))⟩
section
variable {F0:List Nat}{w0 w:av}{ts:List Part}{I:Ids}{x:Sh}{L0:iR}{s:Hs}{T K:Int}
theorem _root_.Go.Proofs.YtdhgpmndgcggfaaGreatDoor.Hp.Sy.j6 (h:Sy F0 w0 (hp T K I x L0 s ts) w)(a:Array az)(t:TypeId):Sy F0 w0 (hp T K I x L0 s (aQ w.heap.size t a.toList::ts)) (w.alloc (.cells a t)):=(h.box a t).ins 6
theorem _root_.Go.Proofs.YtdhgpmndgcggfaaGreatDoor.Hp.Sy.dL {q:Part}(h:Sy F0 w0 (hp T K I x L0 s (q::ts)) w):Sy F0 w0 (hp T K I x L0 s ts) w:=h.del 6
end
section
variable {F0:List Nat}{w0 w:av}{ts:List Part}{I:Ids}{x:Sh}{L0:iR}{s:Hs}{T K:Int}
variable (h:Sy F0 w0 (hp T K I x L0 s ts) w)
include h
theorem fV:w.cell? ⟨I.h,0,none⟩=some (ai (some ⟨I.k,0,none⟩))/\w.cell? ⟨I.h,1,none⟩=some (Z ag x.a)/\w.cell? ⟨I.h,2,none⟩=some (Z ag x.b)/\w.cell? ⟨I.h,3,none⟩=some (Z ag x.c)/\w.cell? ⟨I.h,4,none⟩=some (Z ag x.q)/\w.cell? ⟨I.h,5,none⟩=some (Z ag x.s) /\
  w.cell? ⟨I.h,6,none⟩=some (ai (some ⟨I.ac,0,none⟩))/\w.cell? ⟨I.h,7,none⟩=some (ai (some ⟨I.r,0,none⟩))/\w.cell? ⟨I.h,8,none⟩=some (ai (some ⟨I.c,0,none⟩))/\w.cell? ⟨I.h,9,none⟩=some (ai (some ⟨I.q,0,none⟩))/\w.cell? ⟨I.h,10,none⟩=some (Z ag s.ch):=by
 have hb:=h.blk (i:=0) rfl;exact⟨hb.cell rfl,hb.cell rfl,hb.cell rfl,hb.cell rfl,hb.cell rfl,hb.cell rfl,hb.cell rfl,hb.cell rfl,hb.cell rfl,hb.cell rfl,hb.cell rfl⟩
theorem vW:w.cell? ⟨I.h,0,none⟩=some (ai (some ⟨I.k,0,none⟩)):=(fV h).1
theorem IL:w.cell? ⟨I.h,6,none⟩=some (ai (some ⟨I.ac,0,none⟩)):=(fV h).2.2.2.2.2.2.1
theorem Q5:w.cell? ⟨I.h,7,none⟩=some (ai (some ⟨I.r,0,none⟩)):=(fV h).2.2.2.2.2.2.2.1
theorem h_c:w.cell? ⟨I.h,8,none⟩=some (ai (some ⟨I.c,0,none⟩)):=(fV h).2.2.2.2.2.2.2.2.1
theorem Yj:w.cell? ⟨I.h,9,none⟩=some (ai (some ⟨I.q,0,none⟩)):=(fV h).2.2.2.2.2.2.2.2.2.1
theorem yP:w.cell? ⟨I.h,10,none⟩=some (Z ag s.ch)/\w.frozen? ⟨I.h,10,none⟩=false:=⟨(fV h).2.2.2.2.2.2.2.2.2.2,(h.blk (i:=0) rfl).free 10⟩
theorem _root_.Go.Proofs.YtdhgpmndgcggfaaGreatDoor.Hp.Sy.qJ:Sy F0 w0 (hp T K I x L0 { s with ch:=tick s.ch } ts) (w.setCell ⟨I.h,10,none⟩ (Z ag (wrap64 (s.ch+1)))):=h.put (i:=0) rfl 10 _
theorem Ys:x.may=true:=(lH h (i:=1) rfl).2.2.2.1
theorem aa4:s.cs.length=x.n/\s.ct.length=x.n/\s.vs.length=x.n:=⟨(lH h (i:=1) rfl).1,(lH h (i:=1) rfl).2.1,(lH h (i:=1) rfl).2.2.1⟩
theorem gK (n:Int)(hn:n<=9223372036854775807){k:Nat}(hk:kz x n=k):aG 68 #[ai (some ⟨I.h,0,none⟩),Z ag n] w (Z ag k) λw'=>Sy F0 w0 (hp T K I x L0 s ts) w':=by
 have c0:=vW h;go_enter func68,ntmps68;go_wp2_with fail;refine aP (BG h (i:=1) rfl n hn hk) λw1 h1=>?_
 go_wp2_with fail;go_ret;exact⟨rfl,h1⟩
end
section
variable {F0:List Nat}{w0 w:av}{ts:List Part}{I:Ids}{x:Sh}{L0:iR}{s:Hs}{T K:Int}
theorem ZM {t:TypeId}{a0 b0 c0:az}{g:Nat}(h:Sy F0 w0 (hp T K I x L0 s (aQ g t [a0,b0,c0]::ts)) w)(a b c:az) :
  bA (((w.setCell ⟨g,0,none⟩ a).setCell ⟨g,1,none⟩ b).setCell ⟨g,2,none⟩ c) g t [a,b,c]/\Sy F0 w0 (hp T K I x L0 s ts) (((w.setCell ⟨g,0,none⟩ a).setCell ⟨g,1,none⟩ b).setCell ⟨g,2,none⟩ c):=by
 have h3:=((h.put (i:=6) rfl 0 a).put (i:=6) rfl 1 b).put (i:=6) rfl 2 c;exact⟨h3.blk (i:=6) rfl,h3.dL⟩
theorem res2 {t:TypeId}{a0 b0:az}{g:Nat}(h:Sy F0 w0 (hp T K I x L0 s (aQ g t [a0,b0]::ts)) w)(a b:az) :
  bA ((w.setCell ⟨g,0,none⟩ a).setCell ⟨g,1,none⟩ b) g t [a,b]/\Sy F0 w0 (hp T K I x L0 s ts) ((w.setCell ⟨g,0,none⟩ a).setCell ⟨g,1,none⟩ b):=by
 have h3:=(h.put (i:=6) rfl 0 a).put (i:=6) rfl 1 b;exact⟨h3.blk (i:=6) rfl,h3.dL⟩
theorem qH (h:Sy F0 w0 (hp T K I x L0 s ts) w)(n:Int)(hn:n<=9223372036854775807){g c e0:Int}{u:Bool}(h1:bL s.cs n=g)(h2:mQ s.ct n=c)(h3:aS s.cs n=u)(h4:yu s.cs n=e0):aG 59 #[ai (some ⟨I.h,0,none⟩),Z ag n] w (ao #[au #[Z ag g,Z ag c,.bool u],Z ag e0]) λw'=>Sy F0 w0 (hp T (K+1) I x L0 s ts) w':=by
 have h0:=h.j6 #[Z ag 0,Z ag 0,.bool false] 113;have c0:=vW h0;have hc:=IH h0 (i:=1) rfl n hn h1 h2 h3 h4;clear h1 h2 h3 h4 h0;go_enter func59,ntmps59;go_wp2_with fail;refine aP hc λw1 h1=>?_
 have hZ:=h1.blk (i:=6) rfl;have f0:=hZ.free 0;have f1:=hZ.free 1;have f2:=hZ.free 2;have z0:=hZ.cell (i:=0) rfl;have z1:=hZ.cell (i:=1) rfl;have z2:=hZ.cell (i:=2) rfl;have HR:=af (ZM h1 (Z ag g) (Z ag c) (.bool u));clear h1 hZ c0 hc;go_wp2_with fail;exact bodyPost_ret (aV rfl _ _ w.heap.size 113 _ (0,0) _ _ rfl rfl HR.out.1 underlying113 rfl (by kernel_rfl)) rfl ⟨rfl,HR.out.2⟩
theorem uO (h:Sy F0 w0 (hp T K I x L0 s ts) w)(n k:Int)(hn:n<=9223372036854775807){y:Vl}{e0:Int}(h1:ij x s.cs s.vs n k=y)(h2:kZ x s.cs n k=e0):aG 61 #[ai (some ⟨I.h,0,none⟩),Z ag n,Z ag k] w (ao #[au #[Z ag y.k,Z ah y.n],Z ag e0]) λw'=>Sy F0 w0 (hp T (K+1) I x L0 s ts) w':=by
 have h0:=h.j6 #[Z ag 0,Z ah 0] 56;have c0:=vW h0;have hc:=QW h0 (i:=1) rfl n k hn h1 h2;clear h1 h2 h0;go_enter func61,ntmps61;go_wp2_with fail;refine aP hc λw1 h1=>?_
 have hZ:=h1.blk (i:=6) rfl;have f0:=hZ.free 0;have f1:=hZ.free 1;have z0:=hZ.cell (i:=0) rfl;have z1:=hZ.cell (i:=1) rfl;have HR:=af (res2 h1 (Z ag y.k) (Z ah y.n));clear h1 hZ c0 hc;go_wp2_with fail;exact bodyPost_ret (aV rfl _ _ w.heap.size 56 _ (0,0) _ _ rfl rfl HR.out.1 underlying56 rfl (by kernel_rfl)) rfl ⟨rfl,HR.out.2⟩
end
section
variable {F0:List Nat}{w0 w:av}{ts:List Part}{I:Ids}{x:Sh}{L0:iR}{s:Hs}{T K:Int}
variable (h:Sy F0 w0 (hp T K I x L0 s ts) w)
include h
theorem uU (n:Int)(hn:n<=9223372036854775807){b:Bool}(hb:dk n x.n=b):aG 252 #[ai (some ⟨I.h,0,none⟩),Z ag n] w (.bool b) λw'=>Sy F0 w0 (hp T K I x L0 s ts) w':=by
 have HP:=af ((ru (Ys h) n).trans hb);obtain⟨k,hk⟩:∃ k,kz x n=k:=⟨_,rfl⟩
 rw[hk] at HP;clear hb;go_enter func252,ntmps252;go_wp2_with fail;refine aP (gK h n hn hk) λw1 h1=>?_
 clear hk;go_wp2_with fail;go_ret;exact⟨aN (by rw[<- HP.out];simp),h1⟩
theorem pO (n:Int)(hn:n<=9223372036854775807){e0:Int}(he:kh x s n=e0):aG 256 #[ai (some ⟨I.h,0,none⟩),Z ag n] w (Z ag e0) λw'=>Sy F0 w0 (hp T K I x L0 s ts) w':=by
 subst he;unfold kh;cases hb:dk n x.n
 ·rw[if_neg (by simp)]
  go_enter func256,ntmps256;go_wp2_with fail;refine aP (uU h n hn hb) λw1 h1=>?_
  go_wp2_with fail;go_ret;exact⟨rfl,h1⟩
 ·rw[if_pos rfl]
  cases ht:aS s.cs n
  ·rw[if_neg (by simp)]
   go_enter func256,ntmps256;go_wp2_with fail;refine aP (uU h n hn hb) λw1 h1=>?_
   have c0:=vW h1;obtain⟨fb,c1,hT⟩:=vX h1 (i:=1) rfl;have hT:=af (ht ▸ hT n);clear hb ht;go_wp2_with fail;refine bH hT.out ?_;go_wp2_with fail;go_ret;exact⟨rfl,h1⟩
  ·rw[if_pos rfl]
   go_enter func256,ntmps256;go_wp2_with fail;refine aP (uU h n hn hb) λw1 h1=>?_
   have c0:=vW h1;obtain⟨fb,c1,hT⟩:=vX h1 (i:=1) rfl;have hT:=af (ht ▸ hT n);clear hb ht;go_wp2_with fail;refine bH hT.out ?_;go_wp2_with fail;go_ret;exact⟨rfl,h1⟩
theorem KW:aT 67 #[ai (some ⟨I.h,0,none⟩)] w (Z ag s.ch):=by have c0:=(yP h).1;go_enter func67,ntmps67;go_wp2_with fail;go_ret;exact⟨rfl,rfl⟩
theorem BK:Calls prog 57 #[ai (some ⟨I.h,0,none⟩)] w λe w'=>∃ u,e = .returned u/\Own w' u s.r/\Below w.heap.size w w'/\Sy F0 w0 (hp T K I x L0 s ts) w':=by have c0:=Q5 h;go_enter func57,ntmps57;go_wp2_with fail;refine(Q2 h (i:=3) rfl).mono ?_;rintro e w1 ⟨u,rfl,ho,hb,h1⟩;go_wp2_with fail;go_ret;exact⟨u,rfl,ho,hb,h1⟩
theorem BL (hq:s.q.length<=1000):Calls prog 55 #[ai (some ⟨I.h,0,none⟩)] w λe w'=>∃ u,e = .returned u/\Own w' u (Qu.firsts s.q)/\Below w.heap.size w w'/\Sy F0 w0 (hp T K I x L0 s ts) w':=by have c0:=Yj h;have hc:=af (Yh h (i:=5) rfl hq);clear hq;go_enter func55,ntmps55;go_wp2_with fail;refine hc.out.mono ?_;rintro e w1 ⟨u,rfl,ho,hb,h1⟩;go_wp2_with fail;go_ret;exact⟨u,rfl,ho,hb,h1⟩
end
section
variable {F0:List Nat}{w0 w:av}{ts:List Part}{I:Ids}{x:Sh}{L0:iR}{s:Hs}{T K:Int}
theorem ep (h:Sy F0 w0 (hp T K I x L0 s ts) w)(y:Vl)(hy:y.ok){n:Int}{b:Bool}(h1:qZ y=n)(h2:lv y=b):aG 135 #[au #[Z ag y.k,Z ah y.n]] w (ao #[Z ag n,.bool b]) λw'=>Sy F0 w0 (hp T K I x L0 s ts) w':=by subst h1 h2;exact h.makes (uP y hy w)
theorem dA {a b:az}{g:Nat}{t:TypeId}(h:Sy F0 w0 (hp T K I x L0 s (aQ g t [a,b]::ts)) w):w.cell? ⟨g,0,none⟩=some a/\w.cell? ⟨g,1,none⟩=some b:=⟨(h.blk (i:=6) rfl).cell rfl,(h.blk (i:=6) rfl).cell rfl⟩
theorem _root_.Go.Proofs.YtdhgpmndgcggfaaGreatDoor.Hp.Sy.Yt (h:Sy F0 w0 (hp T K I x L0 s ts) w):Sy F0 w0 (hp T K I x L0 s (dx (am none 0 0) []::ts)) w :=(h.add (Below.refl _ _) (dx (am none 0 0) []) ⟨Own.nil w,rfl⟩ (by simp[Qu.blks,Value.ownBlock])).ins 6
theorem tL (h:Sy F0 w0 (hp T K I x L0 s ts) w){i j:Nat}{o:Vl}(hs:Slot x s i j o)(y:Vl)(hy:y.ok)(hq:s.q.length<=1000)(vt:lv o=true->Rt.okB o.n=true) :
  aG 260 #[ai (some ⟨I.h,0,none⟩),Z ag i,Z ag j,au #[Z ag y.k,Z ah y.n]] w (ao #[]) λw'=>Sy F0 w0 (hp T (K+2) I x L0 (j5 s i j y) ts) w':=by
 have h0:=h.j6 #[Z ag y.k,Z ah y.n] 56;obtain⟨e0,e1,e2,e3⟩:=hs.is;obtain⟨e4,e5⟩:=hs.set y hy.2;have hn:=(lH h (i:=1) rfl).2.2.2.1;have kX:=(x.count hn).2;have ig:(i:Int)<=9223372036854775807:=by have:=hs.hi;omega
 have HG:=af (aen e1 e2);have HS:=af (aen e4 e5);have HO:=af hs.ok;have HY:=af hy.1;have HQ:=af hq;cases nH:lv o
 ·have qi:qZ o=0:=by simp[qZ,nH]
  have HP:=af (aen qi nH);have HR:=af (show (j5 s i j y).q=s.q by unfold j5;rw[e3,kp,nH];simp);clear e0 e1 e2 e3 e4 e5 hs hy hq vt nH qi h hn kX;go_enter func260,ntmps260;go_wp2_with fail;refine aP (uO h0 i j ig HG.out.2 HG.out.1) λw1 h1=>?_
  clear h0;have h2:=h1.j6 #[Z ag o.k,Z ah o.n] 56;have c0:=vW h2;have b0:=(h2.blk (i:=7) rfl).cell (i:=0) rfl;have b1:=(h2.blk (i:=7) rfl).cell (i:=1) rfl;have H2:=af h2;clear h2;go_wp2_with fail;generalize w1.alloc (aA #[Z ag o.k,Z ah o.n] 56)=w2 at *
  go_region_held3 (λW=>W.cell? ⟨I.h,0,none⟩=some (ai (some ⟨I.k,0,none⟩))/\W.cell? ⟨w.heap.size,0,none⟩=some (Z ag y.k)/\W.cell? ⟨w.heap.size,1,none⟩=some (Z ah y.n)) (first | exact⟨c0,b0,b1⟩ | exact⟨g0,g1,g2⟩)
   (first | (go_at_call 280;refine(Yr H2.out.drew (i:=1) rfl i j y ig HY.out).mono ?_;rw[HS.out.1,HS.out.2];rintro e w3 ⟨rfl,h3⟩;have g0:=vW (s:={ s with vs:=(j5 s i j y).vs }) h3;have g1:=(h3.blk (i:=7) rfl).cell (i:=0) rfl;have g2:=(h3.blk (i:=7) rfl).cell (i:=1) rfl))
  obtain⟨d0,d1⟩:w3.cell? ⟨w1.heap.size,0,none⟩=some (Z ag o.k)/\w3.cell? ⟨w1.heap.size,1,none⟩=some (Z ah o.n):=⟨(h3.blk (i:=6) rfl).cell rfl,(h3.blk (i:=6) rfl).cell rfl⟩
  clear c0 b0 b1 g0 g1 g2;go_wp2_with fail;refine aP (ep (s:={ s with vs:=(j5 s i j y).vs }) h3 o HO.out HP.out.1 HP.out.2) λw4 h4=>?_
  clear d0 d1 h3;go_wp2_with fail
  go_end0
  refine⟨rfl,up ?_ (show K+1+1<=K+2 by omega)⟩;have h5:=(h4.del 6).del 6;have e:j5 s i j y={ s with vs:=(j5 s i j y).vs }:=by rw[<- HR.out];rfl
  rw[e];exact h5
 ·have L8:=vt nH
  have qi:qZ o=o.n:=by simp[qZ,nH]
  have Yu:aI o.n:=by have:=l7 hs.ok nH;unfold aI;omega
  have HP:=af (aen qi nH);have HR:=af (show (j5 s i j y).q=Qu.fB s.q o.n by unfold j5;rw[e3,kp,nH,qi];simp[Qu.fB,L8]);have HN:=af Yu;clear e0 e1 e2 e3 e4 e5 hs hy hq vt nH qi h hn kX L8 Yu;go_enter func260,ntmps260;go_wp2_with fail;refine aP (uO h0 i j ig HG.out.2 HG.out.1) λw1 h1=>?_
  clear h0;have h2:=h1.j6 #[Z ag o.k,Z ah o.n] 56;have c0:=vW h2;have b0:=(h2.blk (i:=7) rfl).cell (i:=0) rfl;have b1:=(h2.blk (i:=7) rfl).cell (i:=1) rfl;have H2:=af h2;clear h2;go_wp2_with fail;generalize w1.alloc (aA #[Z ag o.k,Z ah o.n] 56)=w2 at *
  go_region_held3 (λW=>W.cell? ⟨I.h,0,none⟩=some (ai (some ⟨I.k,0,none⟩))/\W.cell? ⟨w.heap.size,0,none⟩=some (Z ag y.k)/\W.cell? ⟨w.heap.size,1,none⟩=some (Z ah y.n)) (first | exact⟨c0,b0,b1⟩ | exact⟨g0,g1,g2⟩)
   (first | (go_at_call 280;refine(Yr H2.out.drew (i:=1) rfl i j y ig HY.out).mono ?_;rw[HS.out.1,HS.out.2];rintro e w3 ⟨rfl,h3⟩;have g0:=vW (s:={ s with vs:=(j5 s i j y).vs }) h3;have g1:=(h3.blk (i:=7) rfl).cell (i:=0) rfl;have g2:=(h3.blk (i:=7) rfl).cell (i:=1) rfl))
  obtain⟨d0,d1⟩:w3.cell? ⟨w1.heap.size,0,none⟩=some (Z ag o.k)/\w3.cell? ⟨w1.heap.size,1,none⟩=some (Z ah o.n):=⟨(h3.blk (i:=6) rfl).cell rfl,(h3.blk (i:=6) rfl).cell rfl⟩
  clear c0 b0 b1 g0 g1 g2;go_wp2_with fail;refine aP (ep (s:={ s with vs:=(j5 s i j y).vs }) h3 o HO.out HP.out.1 HP.out.2) λw4 h4=>?_
  have c9:=Yj h4;clear d0 d1 h3;go_wp2_with fail;refine aP (IJ h4 (i:=5) rfl o.n HN.out HQ.out) λw5 h5=>?_
  clear h4 c9;go_wp2_with fail
  go_end0
  refine⟨rfl,up ?_ (show K+1+1<=K+2 by omega)⟩;have h6:=(h5.del 6).del 6;have e:j5 s i j y={ s with vs:=(j5 s i j y).vs,q:=Qu.fB s.q o.n }:=by rw[<- HR.out];rfl
  rw[e];exact h6
theorem Q9 (h:Sy F0 w0 (hp T K I x L0 s ts) w){i:Nat}{z:St}{l:List Vl}(hi:i<x.n)(hz:s.cs[i]?=some z)(ht:z.t=true)(hv:s.vs[i]?=some l)(hl:l.length=x.sl i)(aM:∀ y ∈ l,y.ok) :
  Calls prog 76 #[ai (some ⟨I.h,0,none⟩),Z ag i] w λe w'=>∃ u,e = .returned u/\Sy F0 w0 (hp T (K+4) I x L0 s (dx u (ptrs l)::ts)) w':=by
 have hn:=(lH h (i:=1) rfl).2.2.2.1;have kX:=(x.count hn).2;have ig:(i:Int)<=9223372036854775807:=by omega
 have yt:l.length<=4:=by have:=(Sh.gm hn i).2.1;omega
 have hsl:kz x i=l.length:=by rw[gq hi,hl]
 have h0:=h.Yt;have EN:=af (λ(k:Nat) (o:Vl) (ho:l[k]?=some o)=>(⟨hi,by have:=(aC.1 ho).1;omega,⟨z,hz,ht⟩,⟨l,hv,ho⟩,aM o (aE ho)⟩:Slot x s i k o));clear h hz ht hv hl hn kX hi;go_enter func76,ntmps76;go_wp2_with fail;refine aP (gK h0 i ig hsl) λw1 h1=>?_
 clear h0 hsl;go_wp2_with fail
 go_loopw [5,14] (λu c wr=>∃ (k:Nat) (L:List Int),k<=l.length/\c = Z ag k/\L=ptrs (l.take k)/\Sy F0 w0 (hp T (K+k) I x L0 s (dx u L::ts)) wr) (λ_ c _=>l.length - (aeI c).toNat)
 case atStart=>exact⟨0,[],by omega,rfl,rfl,up h1 (by omega)⟩
 case round =>
  obtain⟨k,L,hk,rfl,hL,hS⟩:=hrel;clear h1;by_cases hlt:k<l.length
  ·obtain⟨o,ho⟩:∃ o,l[k]?=some o:=⟨_,aD hlt⟩
   have hsl:=EN.out k o ho;obtain⟨e0,e1,e2,e3⟩:=hsl.is;have HO:=af hsl.ok;have HL:=af (hL ▸ l8 ho);have hlen:L.length<=100:=by have:=kQ (l.take k);rw[hL];simp at this;omega
   have HG:=af (aen e1 e2);clear ho hsl e0 e1 e2 e3 hL;go_wp2_with fail;refine aP (uO hS i k ig HG.out.2 HG.out.1) λw2 h2=>?_
   have h3:=h2.j6 #[Z ag o.k,Z ah o.n] 56;obtain⟨b0,b1⟩:=dA h3;clear h2 hS;cases nH:lv o
   ·have qi:qZ o=0:=by simp[qZ,nH]
    have HE:=af (show ptrs [o]=[] by rw[kp,nH];rfl);have HP:=af (aen qi nH);clear qi nH;go_wp2_with fail;refine aP (ep h3 o HO.out HP.out.1 HP.out.2) λw4 h4=>?_
    clear b0 b1 h3;go_wp2_with fail;go_roundw
    case rel=>exact⟨k+1,L,by omega,by go_num,by rw[HL.out,HE.out,List.append_nil],up h4.dL (by push_cast;omega)⟩
    case measure=>simp[aeI];omega
   ·have qi:qZ o=o.n:=by simp[qZ,nH]
    have HE:=af (show ptrs [o]=[o.n] by rw[kp,nH,qi];rfl);have HP:=af (aen qi nH);clear qi nH;go_wp2_with fail;refine aP (ep h3 o HO.out HP.out.1 HP.out.2) λw4 h4=>?_
    clear b0 b1 h3
    go_wp2_with (at_builtin;refine dH rfl _ _ rfl (j:=7) _ L rfl (h4.alloc _) rfl _ 1 o.n rfl (Qu.mT _ _) (by omega) ?_;intro v5 w5 h5)
    clear h4;go_wp2_with fail;go_roundw
    case rel=>exact⟨k+1,L++[o.n],by omega,by go_num,by rw[HL.out,HE.out],up (h5.del 6) (by push_cast;omega)⟩
    case measure=>simp[aeI];omega
  ·have:k=l.length:=by omega
   subst this;rw[aeF] at hL;subst hL;go_wp2_with fail;go_ret;exact⟨_,rfl,up hS (by omega)⟩
theorem aa5 (h:Sy F0 w0 (hp T K I x L0 s ts) w)(aM:Ok x s)(n:Int)(hn:n<=9223372036854775807)(hq:s.all.length<=1000){e0:Int}(he:kh x s n=e0) :
  aG 305 #[ai (some ⟨I.h,0,none⟩),Z ag n] w (Z ag e0) λw'=>Sy F0 w0 (hp T (K+8) I x L0 (nV x s n) ts) w':=by
 subst he;by_cases hl:kh x s n=0
 ·obtain⟨i,z,rfl,hi,hz,ht⟩:=qF aM hl
  have e2:nV x s i={ fD s i (x.sl i) with ch:=tick s.ch }:=by unfold nV;rw[if_pos hl,gq hi,(IQ s (tick s.ch) i _).1]
  have uD:=(IQ s 0 i (x.sl i)).2;have hsl:kz x i=x.sl i:=gq hi;have VU:=(Sh.gm aM.may i).2.1;have LV:=af (λk (hk:k<x.sl i)=>(aM.cut hi hz ht k (by omega)));have ZX:=af (λk (hk:k<x.sl i)=>mY (aM.cut hi hz ht k (by omega)).1 hi hk (by rw[BA];exact hz) ht);have HQ:=af hq;have HL:=af hl;rw[hl,e2];generalize x.sl i=N at *;clear hi hz ht aM hq hl e2;go_enter func305,ntmps305;go_wp2_with fail;refine aP (pO h i hn HL.out) λw1 h1=>?_
  clear h;go_wp2_with fail;refine aP (gK h1 i hn hsl) λw2 h2=>?_
  clear h1 hsl;go_wp2_with fail
  go_loopw [16] (λc wr=>∃ (k:Nat),k<=N/\c = Z ag k/\Sy F0 w0 (hp T (K+2 * k) I x L0 (fD s i k) ts) wr) (λc _=>N - (aeI c).toNat)
  case atStart=>exact⟨0,by omega,rfl,up h2 (by omega)⟩
  case round =>
   obtain⟨k,hk,rfl,hS⟩:=hrel;clear h2;by_cases hlt:k<N
   ·obtain⟨o,G',vt⟩:=ZX.out k hlt
    have HOT:=af vt;have HQ2:=af (show (fD s i k).q.length<=1000 by
     have h1:=(LV.out k hlt).2;have h2:=HQ.out;have h3:(fD s i k).q.length<=(fD s i k).all.length:=by simp only[Hs.all,aeu];omega
     omega)
    clear vt;go_wp2_with fail;refine aP (tL hS G' Vl.nil Vl.qx HQ2.out HOT.out) λw3 h3=>?_
    clear hS G';go_wp2_with fail;go_roundw
    case rel=>exact⟨k+1,hlt,by go_num,up h3 (by push_cast;omega)⟩
    case measure=>simp[aeI];omega
   ·have:k=N:=by omega
    subst this;obtain⟨c0,k0⟩:=yP hS;have H4:=af hS.qJ;rw[uD] at H4 c0;clear hS uD;go_wp2_with fail;go_ret;exact⟨rfl,up H4.out (by omega)⟩
 ·have e2:nV x s n=s:=by unfold nV;rw[if_neg hl]
  rw[e2];obtain⟨E,hE⟩:∃ E,kh x s n=E:=⟨_,rfl⟩
  rw[hE] at hl ⊢;clear e2 aM hq;go_enter func305,ntmps305;go_wp2_with fail;refine aP (pO h n hn hE) λw1 h1=>?_
  clear hE;go_wp2_with fail;go_ret;exact⟨rfl,up h1 (by omega)⟩
theorem Rr {u:az}{l:List Int}(h:Sy F0 w0 (hp T K I x L0 s (dx u l::ts)) w)(hl:∀ c ∈ l,aI c) :
  aG 310 #[ai (some ⟨I.h,0,none⟩),u] w (ao #[]) λw'=>Sy F0 w0 (hp T K I x L0 (uN s l) (dx u l::ts)) w':=by
 obtain⟨A,cap,hu,q1,q2,q3,_⟩:=(eh h (i:=6) rfl).form;subst hu;go_enter func310,ntmps310;go_wp2_with fail
 go_loopw [10] (λc wr=>∃ (k:Nat),k<=l.length/\c = Z ag k/\Sy F0 w0 (hp T K I x L0 (uN s (l.take k)) (dx (am A l.length cap) l::ts)) wr) (λc _=>l.length - (aeI c).toNat)
 case atStart=>exact⟨0,by omega,rfl,h⟩
 case round =>
  obtain⟨k,hk,rfl,hS⟩:=hrel;clear h;by_cases hlt:k<l.length
  ·obtain⟨c,hc⟩:∃ c,l[k]?=some c:=⟨_,aD hlt⟩
   obtain⟨A',cap',G7,_,_,_,hat⟩:=(eh hS (i:=6) rfl).form;obtain⟨rfl,rfl⟩:A=A'/\cap=cap':=by simpa using G7
   obtain⟨g,rfl,hg⟩:=hat k c hc;have EU:=hl c (aE hc);have c0:=h_c hS;have HE:=af (rR (Yf hS (i:=4) rfl) c);have HT:=af (KX hc s.k);clear G7 hat hc;go_wp2_with fail;refine(BI hS (i:=4) rfl c EU rfl).mono ?_;rw[HE.out];rintro e w2 ⟨rfl,h2⟩;clear hS c0 hg;go_wp2_with fail;go_roundw
   case rel =>refine⟨k+1,hlt,by go_num,?_⟩;unfold uN;rw[HT.out];exact h2
   case measure=>simp[aeI];omega
  ·have:k=l.length:=by omega
   subst this;rw[aeF] at hS;go_wp2_with fail
   go_end0
   exact⟨rfl,hS⟩
theorem vY (h:Sy F0 w0 (hp T K I x L0 s ts) w):w.cell? ⟨I.h,6,none⟩=some (ai (some ⟨I.ac,0,none⟩))/\w.cell? ⟨I.h,1,none⟩=some (Z ag x.a)/\w.cell? ⟨I.h,2,none⟩=some (Z ag x.b)/\w.cell? ⟨I.h,3,none⟩=some (Z ag x.c)/\w.cell? ⟨I.h,4,none⟩=some (Z ag x.q)/\w.cell? ⟨I.h,5,none⟩=some (Z ag x.s):=by obtain⟨_,c1,c2,c3,c4,c5,c6,_⟩:=fV h;exact⟨c6,c1,c2,c3,c4,c5⟩
theorem aa6 (h:Sy F0 w0 (hp T K I x L0 s ts) w){i:Nat}{z:St}{l:List Vl}(hi:i<x.n)(hz:s.cs[i]?=some z)(ht:z.t=true)(hv:s.vs[i]?=some l)(hl:l.length=x.sl i)(tK:∀ y ∈ l,y.ok)(hpo:∀ c ∈ ptrs l,Rt.okB c=true)(hq:s.q.length+l.length<=1000)(hu:bV (x.cz i)<=s.u) :
  aG 304 #[ai (some ⟨I.h,0,none⟩),Z ag i] w (ao #[]) λw'=>Sy F0 w0 (hp T (K+9) I x L0 (ED x s i) ts) w':=by
 have hn:=(lH h (i:=1) rfl).2.2.2.1;have kX:=(x.count hn).2;have ig:(i:Int)<=9223372036854775807:=by omega
 have vJ:aI i:=by unfold aI;omega
 have HI:=af vJ;have HO:=af (Q9 h hi hz ht hv hl tK);have yr:=kQ l;obtain⟨P,hP⟩:∃ P,ptrs l=P:=⟨_,rfl⟩
 have hout:s.outs i=P:=by simp[Hs.outs,hv,hP]
 rw[hP] at HO hpo yr;have HPO:=af hpo;have hqP:s.q.length+P.length<=1000:=by omega
 have rS:=Yf h (i:=4) rfl;have HK:=af (rR rS i);have hsz:=size_le (x.cz i);obtain⟨S,hS⟩:∃ S,bV (x.cz i)=S:=⟨_,rfl⟩
 rw[hS] at hsz hu;have q3:Ac.Ya s.u S=0:=by unfold Ac.Ya;rw[if_neg (by omega),if_neg (by omega)]
 have q4:Ac.Yb s.u S=s.u - S:=by unfold Ac.Yb;rw[if_neg (by omega),if_neg (by omega)]
 have HQ:=af (aen q3 q4);have HS:=af hS;have es:ED x s i=⟨mG s.cs i,qt s.cs s.p i,uI s.cs s.ct i,xa x s.cs s.vs i,s.u - S,s.r,Rt.aZ (i:Int) s.k,s.q++P,s.ch⟩:=by unfold ED;rw[hout,hS]
 rw[es];clear h hi hz ht hv hl tK hpo hq hu hn kX vJ hP hout yr rS hsz hS q3 q4 es;go_enter func304,ntmps304;go_wp2_with fail;refine HO.out.mono ?_;rintro e w1 ⟨u,rfl,h1⟩;obtain⟨A,cap,hu,q1,q2,q3,_⟩:=(eh h1 (i:=6) rfl).form;subst hu;clear HO;go_wp2_with fail
 go_loopw [10] (λc wr=>∃ (k:Nat),k<=P.length/\c = Z ag k/\Sy F0 w0 (hp T (K+4) I x L0 { s with q:=s.q++P.take k } (dx (am A P.length cap) P::ts)) wr) (λc _=>P.length - (aeI c).toNat)
 case atStart=>exact⟨0,by omega,rfl,by simpa using h1⟩
 case round =>
  obtain⟨k,hk,rfl,hR⟩:=hrel;clear h1;by_cases hlt:k<P.length
  ·obtain⟨c,hc⟩:∃ c,P[k]?=some c:=⟨_,aD hlt⟩
   obtain⟨A',cap',G7,_,_,_,hat⟩:=(eh hR (i:=6) rfl).form;obtain⟨rfl,rfl⟩:A=A'/\cap=cap':=by simpa using G7
   obtain⟨g,rfl,hg⟩:=hat k c hc;have nR:=HPO.out c (aE hc);have hcb:=Rt.jq nR;have EU:aI c:=by unfold aI;omega
   have c0:=Yj hR;have hlen:(s.q++P.take k).length<=1000:=by rw[aeu,List.length_take];omega
   have HE:=af (show Qu.fB (s.q++P.take k) c=s.q++P.take (k+1) by simp[Qu.fB,nR,List.take_add_one,hc]);have HC:=af (aen EU hlen);clear G7 hat hc nR hcb EU hlen;go_wp2_with fail;refine(IJ hR (i:=5) rfl c HC.out.1 HC.out.2).mono ?_;rw[HE.out];rintro e w2 ⟨rfl,h2⟩;clear hR c0 hg;go_wp2_with fail;go_roundw
   case rel=>exact⟨k+1,hlt,by go_num,h2⟩
   case measure=>simp[aeI];omega
  ·have:k=P.length:=by omega
   subst this;rw[aeF] at hR;have h2:=Sy.dL (s:={ s with q:=s.q++P }) hR;have c0:=vW h2;clear hR;go_wp2_with fail;refine aP (Z2 h2 (i:=1) rfl i) λw3 h3=>?_
   have f3:=vY (s:=⟨mG s.cs i,qt s.cs s.p i,uI s.cs s.ct i,xa x s.cs s.vs i,s.u,s.r,s.k,s.q++P,s.ch⟩) h3;have f3d:=vY (s:=⟨mG s.cs i,qt s.cs s.p i,uI s.cs s.ct i,xa x s.cs s.vs i,s.u,s.r,s.k,s.q++P,s.ch⟩) h3.drew;have HL:=af (Ro h3.drew (i:=1) rfl);have H3:=af h3;clear h2 h3 c0;go_wp2_with fail
   go_region_held3 (λW=>W.cell? ⟨I.h,6,none⟩=some (ai (some ⟨I.ac,0,none⟩))/\W.cell? ⟨I.h,1,none⟩=some (Z ag x.a)/\W.cell? ⟨I.h,2,none⟩=some (Z ag x.b)/\W.cell? ⟨I.h,3,none⟩=some (Z ag x.c)/\W.cell? ⟨I.h,4,none⟩=some (Z ag x.q)/\W.cell? ⟨I.h,5,none⟩=some (Z ag x.s)) (first | exact f3 | exact f3d | exact f5 | exact f6)
    (first
     | (go_at_call 192;refine aP (sW _ _ _ _ _ _ _ HL.out ig) λw5 dT=>?_;have h5:=H3.out.drew.more dT;have f5:=vY (s:=⟨mG s.cs i,qt s.cs s.p i,uI s.cs s.ct i,xa x s.cs s.vs i,s.u,s.r,s.k,s.q++P,s.ch⟩) h5;have HL5:=af (Ro h5 (i:=1) rfl))
     | (go_at_call 85;refine bH (size_any _ _ HL5.out) ?_)
     | (go_at_call 249;refine(EK h5 (i:=2) rfl _ (e0:=0) (u':=s.u - S) (by show Ac.Ya s.u (bV (x.cz i))=0;rw[HS.out];exact HQ.out.1) (by show Ac.Yb s.u (bV (x.cz i))=_;rw[HS.out];exact HQ.out.2)).mono ?_;rintro e w6 ⟨rfl,h6⟩;have f6:=vY (s:=⟨mG s.cs i,qt s.cs s.p i,uI s.cs s.ct i,xa x s.cs s.vs i,s.u - S,s.r,s.k,s.q++P,s.ch⟩) h6))
   have c0:=h_c (s:=⟨mG s.cs i,qt s.cs s.p i,uI s.cs s.ct i,xa x s.cs s.vs i,s.u - S,s.r,s.k,s.q++P,s.ch⟩) h6;clear f3 f3d f5 f6 h5 dT;go_wp2_with fail;refine(BI h6 (i:=4) rfl i HI.out rfl).mono ?_;rw[HK.out];rintro e w7 ⟨rfl,h7⟩;go_wp2_with fail
   go_end0
   exact⟨rfl,up h7 (by omega)⟩
theorem V1 (aM:Ok x s)(hb:Qu.eD s.q=true)(hq:s.all.length<=900)(h:Sy F0 w0 (hp T K I x L0 (IU s) ts) w) :
  aG 283 #[ai (some ⟨I.h,0,none⟩),Z ag (Qu.qy s.q),Z ag (Qu.qa s.q)] w (.bool (sP s)) λw'=>Sy F0 w0 (hp T (K+10) I x L0 { eK x s with ch:=s.ch } ts) w':=by
 obtain⟨i,z,N,e1,hi,hz,ht,e2,hN,h1,hc,hl,q8⟩:=aM.pop hb;have kX:=(x.count aM.may).2;have ig:(i:Int)<=9223372036854775807:=by omega
 have vJ:aI i:=by unfold aI;omega
 obtain⟨C,hC⟩:∃ C:Int,mQ s.ct i=C:=⟨_,rfl⟩
 have hCN:(N:Int)<=C:=by omega
 have hlen:=aM.l2;have hcb:=(Yq h (i:=1) rfl).2.1 i C (by
  obtain⟨c,jh⟩:∃ c,s.ct[i]?=some c:=⟨_,aD (by omega)⟩
  have:=jo jh;rw[hC] at this;rw[this];exact jh)
 obtain⟨g,hg⟩:∃ g,bL s.cs i=g:=⟨_,rfl⟩
 have hh:=af (qH h i ig hg hC ((fE hz).trans ht) (Ed aM.l1 hi));have KN:s.q.length<=s.all.length:=by simp only[Hs.all,aeu];omega
 rw[e1,e2];cases hd:sP s
 ·have hne:¬ C=N:=by
   rw[<- hC];intro e;have:sP s=true:=by unfold sP;rw[e1,e2,e];simp
   rw[this] at hd;cases hd
  have Y2:=Q6 (ct:=s.ct) (c:=C - N) hz ht (by omega);have hw:wrap64 (C - N)=C - N:=cB (by unfold aI;omega);have bC:=rO aM hi;have hadd:Rt.lj s.k i=Rt.dN i s.k:=by simp[Rt.lj,Rt.iU bC.1 (show (i:Int)<192 by omega)]
  have es:({ eK x s with ch:=s.ch }:Hs)=⟨s.cs,s.p,s.ct.set i (C - N),s.vs,s.u,s.r,Rt.dN (i:Int) s.k,Qu.eU s.q,s.ch⟩:=by unfold eK;rw[if_neg (by rw[hd];simp),e1,e2];unfold loS;simp only[hC,Int.toNat_natCast]
  rw[es];have HS:=af (aen Y2 hadd);have HW:=af hw;have HI:=af vJ;have hC0:=hcb.1;have hC1:=hcb.2;clear aM hb hq e1 e2 hi hz ht hN h1 hc hl q8 kX vJ hC hcb hg hd Y2 hadd es bC KN hlen hw;go_enter func283,ntmps283;go_wp2_with fail;refine aP hh.out λw1 h1=>?_
  have h2:=h1.j6 #[Z ag g,Z ag C,.bool true] 113;have c0:=vW h2;have b1:=(h2.blk (i:=6) rfl).cell (i:=1) (v:=Z ag C) rfl;have H2:=af h2;clear hh h1 h2 h;go_wp2_with fail;generalize w1.alloc (aA #[Z ag g,Z ag C,.bool true] 113)=w2 at *
  go_still_tail 9,(by kernel_rfl)
  go_wp2_with fail;refine(Rq H2.out.drew (i:=1) rfl i _ ig).mono ?_;rw[show (IU s).cs=s.cs from rfl,show (IU s).ct=s.ct from rfl,HS.out.1.1,HS.out.1.2];rintro e w3 ⟨rfl,h3⟩;have GL:=Sy.dL (s:=⟨s.cs,s.p,s.ct.set i (C - N),s.vs,s.u,s.r,s.k,Qu.eU s.q,s.ch⟩) h3;have c1:=h_c GL;clear c0 b1 h3;go_wp2_with fail;refine(Q1 GL (i:=4) rfl i HI.out).mono ?_;rw[HS.out.2];rintro e w4 ⟨rfl,h4⟩;clear c1 GL;go_wp2_with fail;go_ret;exact⟨rfl,up h4 (by omega)⟩
 ·obtain⟨i',z',l,e1',hi',ku,ht',hv,tK,C9,ho,aa7,Dn,acy,L6,jh,hl'⟩:=rP aM hb hd
  obtain rfl:i=i':=by omega
  have acz:C=N:=by rw[<- hC,aa7,e2]
  have yt:=(Sh.gm aM.may i).2.1;have YY:bV (x.cz i)<=s.u:=by
   have YY:=rM (z':=⟨z.c,z.g+1,false⟩) hz;have e5:mX z=bV (x.cz i):=by simp[mX,ht,(aM.inv.cell i z hz).1]
   have e6:mX ⟨z.c,z.g+1,false⟩=0:=by simp[mX]
   rw[e5,e6] at YY;have aaS:=aM.used;obtain⟨g1,g2⟩:=vU hz ht;have Bz:=aM.inv.gv i;rw[g2] at Bz;have hp:=EF (s.cs.set i ⟨z.c,z.g+1,false⟩) (λy hy=>by
    obtain⟨j,hj⟩:=List.mem_iff_getElem?.1 hy;exact(Bz.cell j y hj).2.1)
   omega
  have hpo:∀ c ∈ ptrs l,Rt.okB c=true:=λc hc=>iT aM.may (aM.rng c (List.mem_append_left _ (rN hv hc)))
  have acB:=af (λ(W:av) (hW:Sy F0 w0 (hp T (K+1) I x L0 (IU s) ts) W)=>aa6 (s:=IU s) hW hi hz ht hv C9 tK hpo (by show (Qu.eU s.q).length+_<=_;omega) YY);have es:({ eK x s with ch:=s.ch }:Hs)=ED x (IU s) i:=by unfold eK;rw[if_pos hd,e1];rfl
  rw[es];subst acz;clear aM hb hq e1 e2 hi hz ht hN h1 hc hl q8 kX vJ hC hcb hg hd es KN hlen e1' hi' ku ht' hv tK C9 ho aa7 Dn acy L6 jh hl' YY hpo yt hCN;go_enter func283,ntmps283;go_wp2_with fail;refine aP hh.out λw1 h1=>?_
  have h2:=h1.more (w':=w1.alloc (aA #[Z ag g,Z ag N,.bool true] 113)) ((Below.refl _ _).alloc (Nat.le_refl _) _);clear hh h1 h;go_wp2_with fail;refine aP (acB.out _ h2) λw3 h3=>?_
  clear h2;go_wp2_with fail;go_ret;exact⟨rfl,up h3 (by omega)⟩
theorem K9 (h:Sy F0 w0 (hp T K I x L0 s ts) w)(aM:Ok x s)(b:Int)(hb:b<=9223372036854775807)(hq:s.all.length<=900) :
  aG 263 #[ai (some ⟨I.h,0,none⟩),Z ag b] w (Z ag (nN x b.toNat s)) λw'=>Sy F0 w0 (hp T (K+10 * b.toNat) I x L0 (lO x b.toNat s) ts) w':=by
 obtain⟨M,hM⟩:∃ M,b.toNat=M:=⟨_,rfl⟩
 rw[hM];obtain⟨S,hS⟩:∃ S,lO x M s=S:=⟨_,rfl⟩
 obtain⟨D,hD⟩:∃ D,nN x M s=D:=⟨_,rfl⟩
 rw[hS,hD];go_enter func263,ntmps263;go_wp2_with fail
 go_loopw [5,12] (λd c wr=>∃ (k:Nat) (d':Int) (t:Hs),k<=M/\c = Z ag k/\d = Z ag d'/\(0<=d'/\d'<=k)/\Ok x t/\t.all.length<=900/\lO x (M - k) t=S/\d'+nN x (M - k) t=D/\Sy F0 w0 (hp T (K+10 * k) I x L0 t ts) wr) (λ_ c _=>M - (aeI c).toNat)
 case atStart=>exact⟨0,0,s,by omega,rfl,rfl,by omega,aM,hq,hS,by rw[<- hD];simp,up h (by omega)⟩
 case round =>
  obtain⟨k,d',t,hk,rfl,rfl,U8,vF,Et,Dh,BO,hR⟩:=hrel;clear h aM hq hS hD;by_cases hlt:k<M
  ·have UD:(k:Int)<b:=by omega
   have XV:t.q.length<=1000:=by simp only[Hs.all,aeu] at Et;omega
   obtain⟨m,hm⟩:∃ m,M - k=m+1:=⟨M - k - 1,by omega⟩
   rw[hm] at Dh BO;unfold lO at Dh;unfold nN at BO;have c0:=Yj hR;have sQ:=af (aen vF Et);cases AA:Qu.eD t.q
   ·rw[AA,if_neg (by simp)] at Dh BO
    subst Dh;have Pj:d'=D:=by omega
    subst Pj;have hpe:Qu.eU t.q=t.q:=by
     cases Y1:t.q with
     | nil=>rfl
     | cons c r=>rw[Y1] at AA;cases AA
    have Ru:=Yg hR (i:=5) rfl XV rfl rfl AA;rw[hpe] at Ru;have vK:=af Ru;clear vF Et XV hm AA BO hk hpe Ru;go_wp2_with fail;refine aP vK.out λw2 h2=>?_
    clear vK hR;go_wp2_with fail;go_ret;exact⟨rfl,up h2 (by omega)⟩
   ·rw[AA,if_pos rfl] at Dh BO
    have h1:=sQ.out.1.one AA;have vK:=af (Yg hR (i:=5) rfl XV rfl rfl AA);have HPB:=af AA;have oL:=af (aen h1.1 (aen (Nat.le_trans h1.2 Et) Dh));obtain⟨A,hA⟩:∃ A,Qu.qy t.q=A:=⟨_,rfl⟩
    obtain⟨TN,hT⟩:∃ TN,Qu.qa t.q=TN:=⟨_,rfl⟩
    have uD:tick t.ch=(eK x t).ch:=by unfold eK;split <;> rfl
    have Vi:=af (λ(W:av) (hW:Sy F0 w0 (hp T (K+10 * k) I x L0 (IU t) ts) W)=>hA ▸ hT ▸ V1 sQ.out.1 AA (by have:=sQ.out.2;omega) hW);rw[hA,hT] at vK;have HCH:=af uD;obtain⟨B,hB⟩:∃ B,sP t=B:=⟨_,rfl⟩
    rw[hB] at BO Vi;clear vF Et XV AA h1 Dh hA hT uD hB;go_wp2_with fail;refine aP vK.out λw2 h2=>?_
    clear vK hR c0;go_wp2_with fail;refine aP (Vi.out _ h2) λw3 h3=>?_
    obtain⟨c0,k0⟩:=yP h3;have H4:=af h3.qJ;clear h2 h3 Vi;cases B
    ·rw[if_neg (by simp)] at BO
     go_wp2_with fail;go_roundw
     case rel =>refine⟨k+1,d',eK x t,by omega,by go_num,rfl,by omega,oL.out.1,oL.out.2.1,by rw[show M - (k+1)=m by omega];exact oL.out.2.2,by rw[show M - (k+1)=m by omega];omega,?_⟩;have:=H4.out;simp only[HCH.out] at this;exact up this (by push_cast;omega)
     case measure=>simp[aeI];omega
    ·rw[if_pos rfl] at BO
     go_wp2_with fail;go_roundw
     case rel =>refine⟨k+1,d'+1,eK x t,by omega,by go_num,by go_num,by omega,oL.out.1,oL.out.2.1,by rw[show M - (k+1)=m by omega];exact oL.out.2.2,by rw[show M - (k+1)=m by omega];omega,?_⟩;have:=H4.out;simp only[HCH.out] at this;exact up this (by push_cast;omega)
     case measure=>simp[aeI];omega
  ·have:k=M:=by omega
   subst this;rw[Nat.sub_self] at Dh BO;unfold lO at Dh;unfold nN at BO;subst Dh;have Pj:d'=D:=by omega
   subst Pj;have UD:¬ (k:Int)<b:=by omega
   go_wp2_with fail;go_ret;exact⟨rfl,up hR (by omega)⟩
end
end ca
end Hp
end
end Go.Proofs.YtdhgpmndgcggfaaGreatDoor
