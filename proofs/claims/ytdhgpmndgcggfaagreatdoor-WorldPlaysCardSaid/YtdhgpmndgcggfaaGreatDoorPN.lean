/- Plain: a ten -/
import Derived.Test.YtdhgpmndgcggfaaGreatDoorPM
set_option maxRecDepth 100000
set_option maxHeartbeats 1600000
namespace Go.Proofs.YtdhgpmndgcggfaaGreatDoor
open _root_.Go.Proofs.Tryz
open Lib renaming hid → af
open Value renaming int → Z, pointer → ai, slice → am
open IntKind renaming i64 → ag, u64 → ah
open Go renaming World → av, Value → az
open List renaming getElem?_eq_some_iff → aC, getElem?_eq_getElem → aD, mem_of_getElem? → aE
open And renaming intro → aen
open Bool renaming and_eq_true → aez, or_eq_true → aga
open Or renaming inl → aeG, inr → aeH
section
namespace Tn
open Hp Go.RowKit
def Dj (x:Int):Int:=x / 288230376151711744 % 4
def Ff (x:Int):Int:=x / 1152921504606846976+1
def bP (x:Int):Int:=x / 4294967296 % 67108864
def iM (x:Int):Int:=x % 4294967296
def wrd (N i g:Int):Int:=1152921504606846976 * (N - 1)+288230376151711744+4294967296 * i+g
def lz (N w:Int):Bool:=Dj w == 1 && Ff w == N
def fh (x:Sh)(N:Int)(s:Hs)(w:Int):Int :=
 if lz N w=true/\dk (bP w) x.n=true then (if bL s.cs (bP w)<iM w then 4 else if iM w<bL s.cs (bP w)\/Rt.hasB s.r (bP w)=false then 5 else 0) else 4
def nX (x:Sh)(N:Int)(s:Hs)(w:Int):Int:=if fh x N s w=0 then bP w else 0
theorem Jg {x:Sh}{N w:Int}{s:Hs}:fh x N s w=0 ↔ lz N w=true/\dk (bP w) x.n=true/\iM w=bL s.cs (bP w)/\Rt.hasB s.r (bP w)=true:=by
 unfold fh;by_cases h:lz N w=true/\dk (bP w) x.n=true
 ·rw[if_pos h]
  split
  ·constructor
   ·intro e;cases e
   ·rintro⟨_,_,e,_⟩;omega
  ·split
   ·rename_i h1 h2
    constructor
    ·intro e;cases e
    ·rintro⟨_,_,e,e'⟩
     rcases h2 with h2 | h2
     ·omega
     ·rw[e'] at h2;cases h2
   ·rename_i h1 h2
    rw[not_or] at h2;exact⟨λ_=>⟨h.1,h.2,by omega,by simpa using h2.2⟩,λ_=>rfl⟩
 ·rw[if_neg h]
  constructor
  ·intro e;cases e
  ·rintro⟨a,b,_⟩
   exact absurd ⟨a,b⟩ h
structure An where
 e:Int
 k:Int
 w:Int
def wrong (e:Int):An:=⟨e,0,0⟩
def datum (n:Int):An:=⟨0,1,n⟩
def rX (N:Int)(s:Hs)(i:Int):An:=⟨0,2,wrd N i (bL s.cs i)⟩
structure Fh where
 k:Int
 w:Int
 o:Int
 n:Int
 m:Int
def tV (x:Sh)(N:Int)(s:Hs)(w slot:Int):Int:=if fh x N s w=0 then (if jK x (bP w) slot=true then 0 else 3) else fh x N s w
def lI (x:Sh)(N:Int)(s:Hs)(n:Int):An:=if nU x s n=0 then rX N (qb x s n) (Bw x s n) else wrong (if nU x s n=1 then 3 else nU x s n)
def rY (x:Sh)(N:Int)(s:Hs)(w:Int):An:=wrong (if fh x N s w=0 then tC x s (bP w) else fh x N s w)
def ef (x:Sh)(N:Int)(s:Hs)(w:Int):Hs:=if fh x N s w=0 then rL x s (bP w) else s
def rZ (x:Sh)(N:Int)(s:Hs)(w slot:Int):An :=
 if tV x N s w slot=0 then (if (ij x s.cs s.vs (bP w) slot).k=2 then (if qD x s (ij x s.cs s.vs (bP w) slot).n=0 then rX N (lZ x s (ij x s.cs s.vs (bP w) slot).n) (ij x s.cs s.vs (bP w) slot).n else wrong (qD x s (ij x s.cs s.vs (bP w) slot).n))
  else ⟨0,(ij x s.cs s.vs (bP w) slot).k,(ij x s.cs s.vs (bP w) slot).n⟩) else wrong (tV x N s w slot)
def ql (x:Sh)(N:Int)(s:Hs)(w slot:Int):Hs :=
 if tV x N s w slot=0/\(ij x s.cs s.vs (bP w) slot).k=2 then lZ x s (ij x s.cs s.vs (bP w) slot).n else s
def nj (x:Sh)(N:Int)(s:Hs)(w slot n:Int):An:=wrong (if tV x N s w slot=0 then (if 9223372036854775807<n then 3 else kj x s (bP w) slot ⟨1,n⟩) else tV x N s w slot)
def lJ (x:Sh)(N:Int)(s:Hs)(w slot n:Int):Hs:=if tV x N s w slot=0/\¬ 9223372036854775807<n then kn x s (bP w) slot ⟨1,n⟩ else s
def jX (x:Sh)(N:Int)(s:Hs)(w slot t:Int):An :=wrong (if tV x N s w slot=0 then (if t=0 then kj x s (bP w) slot ⟨0,0⟩ else if fh x N s t=0 then kj x s (bP w) slot ⟨2,bP t⟩ else fh x N s t) else tV x N s w slot)
def jy (x:Sh)(N:Int)(s:Hs)(w slot t:Int):Hs :=
 if tV x N s w slot=0 then (if t=0 then kn x s (bP w) slot ⟨0,0⟩ else if fh x N s t=0 then kn x s (bP w) slot ⟨2,bP t⟩ else s) else s
def cZ (n:Int):Bool:=decide (1<=n) && decide (n<=65536)
def lookA (x:Sh)(s:Hs)(cell gen slot:Int):An :=
 if yu s.cs cell=0/\aS s.cs cell=true/\bL s.cs cell=gen then (if jK x cell slot=true then (if (ij x s.cs s.vs cell slot).k=2 then ⟨0,2,0⟩ else ⟨0,(ij x s.cs s.vs cell slot).k,(ij x s.cs s.vs cell slot).n⟩) else wrong 3) else wrong 6
def Wn (x:Sh)(N:Int)(s:Hs)(c:Cs)(a:Fh):An :=
 if a.k % 10=2 then rY x N s a.w else if a.k % 10=3 then rZ x N s a.w a.n else if a.k % 10=4 then nj x N s a.w a.n a.o else if a.k % 10=5 then jX x N s a.w a.n a.o
 else if a.k % 10=6 then (if cZ a.n=true then datum (nN x a.n.toNat s) else wrong 3) else if a.k % 10=7 then (if cZ a.n=true then datum (pQ x a.n.toNat c s) else wrong 3)
 else if a.k % 10=8 then datum s.u else if a.k % 10=9 then lookA x s a.m (wrap64 a.o) a.n else lI x N s a.n
def Fj (x:Sh)(N:Int)(s:Hs)(c:Cs)(a:Fh):Hs :=
 if a.k % 10=2 then ef x N s a.w else if a.k % 10=3 then ql x N s a.w a.n else if a.k % 10=4 then lJ x N s a.w a.n a.o else if a.k % 10=5 then jy x N s a.w a.n a.o
 else if a.k % 10=6 then (if cZ a.n=true then lO x a.n.toNat s else s) else if a.k % 10=7 then (if cZ a.n=true then rT x a.n.toNat c s else s)
 else if a.k % 10=8 then s else if a.k % 10=9 then s else qb x s a.n
def Lj (x:Sh)(s:Hs)(c:Cs)(a:Fh):Cs:=if a.k % 10=7/\cZ a.n=true then tM x a.n.toNat c s else c
section
variable {x:Sh}{N:Int}{s:Hs}{c:Cs}
theorem abm {n:Int}(h:nU x s n≠0):qb x s n=s:=by unfold qb;rw[if_neg h]
end
end Tn
end
section
namespace Hp
end Hp
namespace Tn
open Hp Go.RowKit
end Tn
end
section
open Go.RowKit
namespace ca
section
variable {w w' w1:av}{kb fb cb ab ac bs:Nat}{v:Nat->az}{x:Sh}{cs:List St}{p:Nat->List Int}{L:List Int}{t t1:Int}{ct:List Int}{vs:List (List Vl)}{L0:List Int}
theorem κ (n:Int)(h:bQ w kb fb cb v ab ac x bs cs p L t)(hr:dd x.n x bs L0 cs ct vs L)(hi:Inv x cs p) :
  aG 248 #[ai (some ⟨kb,0,none⟩),Z ag n] w (.tuple #[Z ag (AU p n),Z ag (vM p n)]) λw'=>∃ v' t' L',bQ w' kb fb cb v' ab ac x bs (vN cs p n) (vO p n) L' t'/\dd x.n x bs L0 (vN cs p n) ct vs L'/\Step (ft kb fb cb v ab ac) w (ft kb fb cb v' ab ac) w'/\Tk t t' (5):=by
 have c0:=h.cells.1;have hT:=Vn n h.fr hi;have hlen:=h.len;rcases X8 hi n with ⟨he,i,z,hv,hz,ht,hg,hC⟩ | ⟨he,hv,hC,hP⟩
 ·have od:i<cs.length:=(aC.1 hz).1
  have hzi:=hi.cell i z hz;obtain⟨d1,d2⟩:=hr.dead i z hz ht;have XU:=hr.lay (i:=i) (m':=x.n) (by omega) ⟨z.c,z.g,true⟩ (λj hj=>aeG hj);rw[ik d1,ik d2] at XU;have ku:(cs.set i ⟨z.c,z.g,true⟩)[i]?=some ⟨z.c,z.g,true⟩:=by rw[set_any,if_pos rfl,if_pos od]
  rw[he,hv,hC] at hT;rw[he,hv,hC];have HR:=af XU;have HH:=af h;have C9:(cs.set i ⟨z.c,z.g,true⟩).length=cs.length:=by simp
  generalize vO p n=P at *;clear XU d1 d2 hC he hv ht hz h hr hi;go_enter func248,ntmps248
  go_wp2_with (first
   | (go_at_call 275;refine hT.mono ?_;rintro e w1 ⟨rfl,v',ze,sN,lS⟩;have h1:=HH.out.list ze sN lS C9;have vI:=HH.out.ry sN lS)
   | (go_at_call 196;refine(aa1 i _ h1 ku ⟨by simp only;omega,by simp only;omega⟩).mono ?_;rintro e w2 ⟨rfl,t2,h2,Da,hT2⟩))
  go_ret2;exact⟨rfl,v',t2,_,h2,HR.out,⟨vI.1.trans (lr (kb:=kb) (fb:=fb) (cb:=cb) (v:=v) Da) (λk hk=>aeG hk),vI.2⟩,hT2⟩
 ·rw[hv,hC,hP] at hT
  rw[hv,hC,hP];have HR:=af hr;have HH:=af h;have wF:(vM p n != 0)=true:=by simp[bne,he]
  generalize vM p n=E at *;clear hC hP hv h hr hi;go_enter func248,ntmps248
  go_wp2_with (go_at_call 275;refine hT.mono ?_;rintro e w1 ⟨rfl,v',ze,sN,lS⟩;have h1:=HH.out.list ze sN lS rfl;have vI:=HH.out.ry sN lS)
  go_ret2;exact⟨rfl,v',_,_,h1,HR.out,vI,Tk.refl (by omega)⟩
end
end ca
namespace Hp
namespace ca
attribute [local go_sem ↓] Go.wp_at_zero Go.wp_at_succ
section
variable {F0:List Nat}{w0 w:av}{rs:List Part}{i:Nat}{kb ab:Nat}{x:Sh}{L0:iR}{cs:List St}{p:Nat->List Int}{ct:List Int}{vs:List (List Vl)}{T K:Int}
variable (h:Sy F0 w0 rs w)(hi:nth rs i=some (zL T K kb ab x L0 cs p ct vs))
include h hi
theorem Ll (n:Int):aG 248 #[ai (some ⟨kb,0,none⟩),Z ag n] w (.tuple #[Z ag (AU p n),Z ag (vM p n)]) λw'=>Sy F0 w0 (Hp.put rs i (zL T (K+5) kb ab x L0 (vN cs p n) (vO p n) ct vs)) w' :=
 h.does hi λF _ hF=>by
  obtain⟨fb,cb,v,ac,L,t,hC,hR,hI,hT,rfl⟩:=hF;exact(Go.Proofs.YtdhgpmndgcggfaaGreatDoor.ca.κ n hC hR hI).mono λe w' ⟨he,v',t',L',Df,hR',hO,hk⟩=>⟨he,_,⟨fb,cb,v',ac,L',t',Df,hR',hI.tk n,hT.trans hk,rfl⟩,hO⟩
end
section
variable {F0:List Nat}{w0 w:av}{ts:List Part}{I:Ids}{x:Sh}{L0:iR}{s:Hs}{T K:Int}
variable (h:Sy F0 w0 (hp T K I x L0 s ts) w)
include h
theorem IM:aT 66 #[ai (some ⟨I.h,0,none⟩)] w (Z ag s.u):=by have c0:=IL h;go_enter func66,ntmps66;go_wp2_with fail;refine bH (QZ h (i:=2) rfl) ?_;go_wp2_with fail;go_ret;exact⟨rfl,rfl⟩
end
section
variable {F0:List Nat}{w0 w:av}{ts:List Part}{I:Ids}{x:Sh}{L0:iR}{s:Hs}{T K:Int}
theorem wm (h:Sy F0 w0 (hp T K I x L0 s ts) w)(n:Int)(hn:n<=9223372036854775807)(he:kh x s n=0) :
  aG 258 #[ai (some ⟨I.h,0,none⟩),Z ag n] w (Z ag (yO s n)) λw'=>Sy F0 w0 (hp T (K+2) I x L0 (if yO s n=0 then { s with ct:=IB s n } else s) ts) w':=by
 obtain⟨l1,l2,l3⟩:=aa4 h;obtain⟨q1,q2,q3,q4⟩:=Yq h (i:=1) rfl;have hli:∃ (i:Nat) (z:St),n=i/\i<x.n/\s.cs[i]?=some z/\z.t=true:=by
  unfold kh at he;split at he
  ·split at he
   ·rename_i h2
    obtain⟨i,z,rfl,hz,ht⟩:=iW h2;exact⟨i,z,rfl,by have:=(aC.1 hz).1;omega,hz,ht⟩
   ·cases he
  ·cases he
 obtain⟨i,z,rfl,hi,hz,ht⟩:=hli;obtain⟨c,hc⟩:∃ c,s.ct[i]?=some c:=⟨_,aD (by omega)⟩
 have Ax:=jo hc;have hcb:=q2 i c hc;unfold yO IB;rw[Ax];obtain⟨g,hg⟩:∃ g,bL s.cs i=g:=⟨_,rfl⟩
 have hh:=af (qH h i hn hg Ax ((fE hz).trans ht) (Ed l1 hi));clear q1 q2 q3 q4 he hg h;by_cases hm:c=2147483647
 ·subst hm
  rw[if_pos rfl,if_neg (by decide)];clear hz hc Ax hcb;go_enter func258,ntmps258;go_wp2_with fail;refine aP hh.out λw1 h1=>?_
  have h2:=h1.j6 #[Z ag g,Z ag 2147483647,.bool true] 113;clear hh h1;go_wp2_with fail;go_ret;exact⟨rfl,up h2.dL (by omega)⟩
 ·rw[if_neg hm,if_pos rfl]
  have Y2:=Q6 (ct:=s.ct) (c:=c+1) hz ht (by omega);have hw:wrap64 (c+1)=c+1:=cB (by unfold aI;omega);have ji:c<=2147483646:=by omega
  have aef:0<=c:=hcb.1;have HS:=af Y2;clear hz hc Ax hcb Y2;go_enter func258,ntmps258;go_wp2_with fail;refine aP hh.out λw1 h1=>?_
  have h2:=h1.j6 #[Z ag g,Z ag c,.bool true] 113;have c0:=vW h2;have H2:=af h2;have b1:=(h2.blk (i:=6) rfl).cell (i:=1) (v:=Z ag c) rfl;clear hh h1 h2;go_wp2_with fail;generalize w1.alloc (.cells #[Z ag g,Z ag c,.bool true] 113)=w2 at *
  go_still_tail 8,(by kernel_rfl)
  go_wp2_with fail;refine(Rq H2.out.drew (i:=1) rfl i _ hn).mono ?_;rw[HS.out.1,HS.out.2];rintro e w3 ⟨rfl,h3⟩;clear c0 b1;go_wp2_with fail;go_ret;exact⟨rfl,up (Sy.dL (K:=K+1+1) (s:={ s with ct:=s.ct.set i (c+1) }) h3) (by omega)⟩
theorem BX (h:Sy F0 w0 (hp T K I x L0 s ts) w)(n k:Int)(y:Vl)(hn:n<=9223372036854775807)(hy:0<=y.n){e0:Int}(he:vE x s n k y=e0) :
  aG 259 #[ai (some ⟨I.h,0,none⟩),Z ag n,Z ag k,.agg #[Z ag y.k,Z ah y.n]] w (Z ag e0) λw'=>Sy F0 w0 (hp T K I x L0 s ts) w':=by
 have h0:=h.j6 #[Z ag y.k,Z ah y.n] 56;obtain⟨m,hm⟩:∃ m,kz x n=m:=⟨_,rfl⟩
 subst he;by_cases LX:k<0
 ·rw[BM (by unfold jK dk;simp;omega)]
  clear h;go_enter func259,ntmps259;go_wp2_with fail;go_ret;exact⟨rfl,up h0.dL (by omega)⟩
 by_cases LR:(m:Int)<=k
 ·rw[BM (by unfold jK dk;rw[hm];simp;omega)]
  clear h;go_enter func259,ntmps259;go_wp2_with fail;refine aP (gK h0 n hn hm) λw1 h1=>?_
  clear h0 hm;go_wp2_with fail;go_ret;exact⟨rfl,up h1.dL (by omega)⟩
 have hS:jK x n k=true:=by unfold jK dk;rw[hm];simp;omega
 have hkm:k<(m:Int):=by omega
 cases hr:Wd.aK y.k y.n
 ·rw[EL hr]
  clear h hS;go_enter func259,ntmps259;go_wp2_with fail;refine aP (gK h0 n hn hm) λw1 h1=>?_
  obtain⟨b0,b1⟩:=dA h1;clear h0 hm;go_wp2_with fail;refine(h1.makes (Wd.bN y.k y.n w1)).mono ?_;rw[hr];rintro e w2 ⟨rfl,h2⟩;clear b0 b1 h1;go_wp2_with fail;go_ret;exact⟨rfl,up h2.dL (by omega)⟩
 have aM:y.ok:=⟨hy,hr⟩
 have HR:=af hr;cases hp:lv y
 ·have HF:=af (IP (s:=s) hS hr hp)
  have qi:qZ y=0:=by simp[qZ,hp]
  have sQ:=af aM;have UQ:=af qi;have HP:=af hp;clear h hS hr aM qi hp;go_enter func259,ntmps259;go_wp2_with fail;refine aP (gK h0 n hn hm) λw1 h1=>?_
  obtain⟨b0,b1⟩:=dA h1;clear h0 hm;go_wp2_with fail;refine(h1.makes (Wd.bN y.k y.n w1)).mono ?_;rw[HR.out];rintro e w2 ⟨rfl,h2⟩;clear b0 b1 h1;obtain⟨b0,b1⟩:=dA h2;go_wp2_with fail;refine aP (ep h2 y sQ.out UQ.out HP.out) λw3 h3=>?_
  clear b0 b1 h2;have c0:=vW h3;obtain⟨fb,c1,hT⟩:=vX h3 (i:=1) rfl;cases ht:aS s.cs n
  ·have HG:=af (HF.out.trans (if_neg (by rw[ht];simp)))
   have hT:=af (ht ▸ hT n);clear ht HF;go_wp2_with fail;refine bH hT.out ?_;go_wp2_with fail;go_ret;exact⟨bR HG.out.symm,up h3.dL (by omega)⟩
  ·have HG:=af (HF.out.trans (if_pos ht))
   have hT:=af (ht ▸ hT n);clear ht HF;go_wp2_with fail;refine bH hT.out ?_;go_wp2_with fail;go_ret;exact⟨bR HG.out.symm,up h3.dL (by omega)⟩
 ·have qi:qZ y=y.n:=by simp[qZ,hp]
  have hsm:=(l7 aM hp).2;have hyn:y.n<=9223372036854775807:=by omega
  have sQ:=af aM;have UQ:=af qi;have HP:=af hp;have HS:=af hS;clear h hS hr aM qi hp hsm;cases hh:dk y.n x.n
  ·rw[Q7 HP.out hh]
   go_enter func259,ntmps259;go_wp2_with fail;refine aP (gK h0 n hn hm) λw1 h1=>?_
   obtain⟨b0,b1⟩:=dA h1;clear h0 hm;go_wp2_with fail;refine(h1.makes (Wd.bN y.k y.n w1)).mono ?_;rw[HR.out];rintro e w2 ⟨rfl,h2⟩;clear b0 b1 h1;obtain⟨b0,b1⟩:=dA h2;go_wp2_with fail;refine aP (ep h2 y sQ.out UQ.out HP.out) λw3 h3=>?_
   clear b0 b1 h2;go_wp2_with fail;refine aP (uU h3 y.n hyn hh) λw4 h4=>?_
   clear h3 hh;go_wp2_with fail;go_ret;exact⟨rfl,up h4.dL (by omega)⟩
  ·have HF:=af (Q8 (s:=s) HS.out HR.out HP.out hh)
   go_enter func259,ntmps259;go_wp2_with fail;refine aP (gK h0 n hn hm) λw1 h1=>?_
   obtain⟨b0,b1⟩:=dA h1;clear h0 hm;go_wp2_with fail;refine(h1.makes (Wd.bN y.k y.n w1)).mono ?_;rw[HR.out];rintro e w2 ⟨rfl,h2⟩;clear b0 b1 h1;obtain⟨b0,b1⟩:=dA h2;go_wp2_with fail;refine aP (ep h2 y sQ.out UQ.out HP.out) λw3 h3=>?_
   clear b0 b1 h2;go_wp2_with fail;refine aP (uU h3 y.n hyn hh) λw4 h4=>?_
   clear h3 hh;have c0:=vW h4;obtain⟨fb,c1,hT⟩:=vX h4 (i:=1) rfl;cases ht:aS s.cs n
   ·have HG:=af (HF.out.trans (if_neg (by rw[ht];simp)))
    have hT:=af (ht ▸ hT n);clear ht HF;go_wp2_with fail;refine bH hT.out ?_;go_wp2_with fail;go_ret;exact⟨bR HG.out.symm,up h4.dL (by omega)⟩
   ·have ν:=af (HF.out.trans (if_pos ht))
    have hT1:=af (ht ▸ hT n);clear ht HF;cases ht:aS s.cs y.n
    ·have HG:=af (ν.out.trans (if_neg (by rw[ht];simp)))
     have hT2:=af (ht ▸ hT y.n);clear ht hT ν;go_wp2_with fail;refine bH hT1.out ?_;go_wp2_with fail;refine bH hT2.out ?_;go_wp2_with fail;go_ret;exact⟨bR HG.out.symm,up h4.dL (by omega)⟩
    ·have HG:=af (ν.out.trans (if_pos ht))
     have hT2:=af (ht ▸ hT y.n);clear ht hT ν;go_wp2_with fail;refine bH hT1.out ?_;go_wp2_with fail;refine bH hT2.out ?_;go_wp2_with fail;go_ret;exact⟨bR HG.out.symm,up h4.dL (by omega)⟩
theorem abn (h:Sy F0 w0 (hp T K I x L0 s ts) w)(aM:Ok x s)(n k:Int)(y:Vl)(hn:n<=9223372036854775807)(hy:0<=y.n)(hq:s.q.length<=1000){e0:Int}(he:kj x s n k y=e0) :
  aG 208 #[ai (some ⟨I.h,0,none⟩),Z ag n,Z ag k,.agg #[Z ag y.k,Z ah y.n]] w (Z ag e0) λw'=>Sy F0 w0 (hp T (K+4) I x L0 (kn x s n k y) ts) w':=by
 have h0:=h.j6 #[Z ag y.k,Z ah y.n] 56;subst he;by_cases hf:vE x s n k y=0
 ·obtain⟨i,j,z,rfl,rfl,hi,hj,hz,ht,hr,hpt⟩:=BB aM hf
  obtain⟨o,hsl,vt⟩:=mY aM hi hj hz ht;have Wp:y.ok:=⟨hy,hr⟩
  have HY:=af Wp;have HOT:=af vt;have HQ:=af hq;have HF:=af hf;have HYN:=af hy;cases hb:lv y
  ·have e1:kj x s i j y=0:=by unfold kj;rw[if_pos hf,hb,if_neg (by simp)]
   have e2:kn x s i j y={ j5 s i j y with ch:=tick s.ch }:=by unfold kn;rw[if_pos e1,hb];rfl
   have HP:=af (aen (show qZ y=0 by simp[qZ,hb]) hb);rw[e1,e2];clear hf hi hj hz ht hr hpt vt Wp hq hy hb e1 e2 h aM;go_enter func208,ntmps208;go_wp2_with fail;refine aP (BX h0 i j y hn HYN.out HF.out) λw1 h1=>?_
   obtain⟨b0,b1⟩:=dA h1;clear h0;go_wp2_with fail;refine aP (ep h1 y HY.out HP.out.1 HP.out.2) λw2 h2=>?_
   clear b0 b1 h1;obtain⟨b0,b1⟩:=dA h2;go_wp2_with fail;refine aP (tL h2 hsl y HY.out HQ.out HOT.out) λw3 h3=>?_
   obtain⟨c0,k0⟩:=yP h3;have H4:=af h3.qJ.dL;have hc:(j5 s i j y).ch=s.ch:=rfl;rw[hc] at H4 c0;clear b0 b1 h2 h3 hc;go_wp2_with fail;go_ret;exact⟨rfl,up H4.out (by omega)⟩
  ·obtain⟨m,v,hym,hm,hvm,UA⟩:=hpt hb
   have hmn:(m:Int)<=9223372036854775807:=by have:=(x.count aM.may).2;omega
   have hlm:kh x s m=0:=by unfold kh;rw[if_pos (dU (by omega)),fE hvm,UA,if_pos rfl]
   have HP:=af (aen (show qZ y=m by simp[qZ,hb,hym]) hb);by_cases hu:yO s y.n=0
   ·have e1:kj x s i j y=0:=by unfold kj;rw[if_pos hf,if_pos hb,hu]
    have e2:kn x s i j y={ j5 { s with ct:=IB s m } i j y with ch:=tick s.ch }:=by unfold kn;rw[if_pos e1,if_pos hb,hym];rfl
    have U7:Slot x { s with ct:=IB s m } i j o:=⟨hsl.hi,hsl.hj,hsl.live,hsl.row,hsl.ok⟩
    have HU:=af (show yO s m=0 by rw[<- hym];exact hu);have HL:=af hlm;rw[e1,e2];clear hf hi hj hz ht hr hpt vt Wp hq hy hb e1 e2 h aM hym hvm UA hlm hu hsl;go_enter func208,ntmps208;go_wp2_with fail;refine aP (BX h0 i j y hn HYN.out HF.out) λw1 h1=>?_
    obtain⟨b0,b1⟩:=dA h1;clear h0;go_wp2_with fail;refine aP (ep h1 y HY.out HP.out.1 HP.out.2) λw2 h2=>?_
    clear b0 b1 h1;go_wp2_with fail;refine(wm h2 m hmn HL.out).mono ?_;rw[if_pos HU.out,HU.out];rintro e w3 ⟨rfl,h3⟩;obtain⟨b0,b1⟩:=dA h3;clear h2;go_wp2_with fail;refine aP (tL h3 U7 y HY.out HQ.out HOT.out) λw4 h4=>?_
    obtain⟨c0,k0⟩:=yP h4;have H4:=af h4.qJ.dL;have hc:(j5 { s with ct:=IB s m } i j y).ch=s.ch:=rfl;rw[hc] at H4 c0;clear b0 b1 h3 h4 hc;go_wp2_with fail;go_ret;exact⟨rfl,up H4.out (by omega)⟩
   ·have ξ:=up8 hu
    have e1:kj x s i j y=8:=by unfold kj;rw[if_pos hf,if_pos hb,ξ]
    have e2:kn x s i j y=s:=by unfold kn;rw[e1,if_neg (by omega)]
    have HU:=af (show yO s m=8 by rw[<- hym];exact ξ);have HL:=af hlm;rw[e1,e2];clear hf hi hj hz ht hr hpt vt Wp hq hy hb e1 e2 h aM hym hvm UA hlm hu hsl ξ;go_enter func208,ntmps208;go_wp2_with fail;refine aP (BX h0 i j y hn HYN.out HF.out) λw1 h1=>?_
    obtain⟨b0,b1⟩:=dA h1;clear h0;go_wp2_with fail;refine aP (ep h1 y HY.out HP.out.1 HP.out.2) λw2 h2=>?_
    clear b0 b1 h1;go_wp2_with fail;refine(wm h2 m hmn HL.out).mono ?_;rw[HU.out,if_neg (by omega)];rintro e w3 ⟨rfl,h3⟩;go_wp2_with fail;go_ret;exact⟨rfl,up h3.dL (by omega)⟩
 ·have e1:kj x s n k y=vE x s n k y:=by unfold kj;rw[if_neg hf]
  have e2:kn x s n k y=s:=by unfold kn;rw[if_neg (by rw[e1];exact hf)]
  rw[e1,e2];obtain⟨E,hE⟩:∃ E,vE x s n k y=E:=⟨_,rfl⟩
  rw[hE] at hf ⊢;clear e1 e2 h aM;go_enter func208,ntmps208;go_wp2_with fail;refine aP (BX h0 n k y hn hy hE) λw1 h1=>?_
  clear hE h0;go_wp2_with fail;go_ret;exact⟨rfl,up h1.dL (by omega)⟩
theorem Wq (h:Sy F0 w0 (hp T K I x L0 s ts) w)(aM:Ok x s)(n:Int) :
  aG 199 #[ai (some ⟨I.h,0,none⟩),Z ag n] w (.tuple #[Z ag (Bw x s n),Z ag (nU x s n)]) λw'=>Sy F0 w0 (hp T (K+6) I x L0 (qb x s n) ts) w':=by
 have yD:=af (size_any n w (Ro h (i:=1) rfl));obtain⟨S,hS⟩:∃ S,bV n=S:=⟨_,rfl⟩
 have oK:=size_le n;have jS:=aM.fit;rcases EO aM n with ⟨h0,he⟩ | ⟨h0,h1,he⟩ | ⟨h0,h1,he,t1,t2,t3,t4⟩ | he
 ·obtain⟨e1,e2⟩:=tH (x:=x) (s:=s) (n:=n) (by omega)
  rw[e1,e2,he];rw[h0] at yD;clear hS oK jS e1 e2 he h0;go_enter func199,ntmps199;go_wp2_with fail;refine bH yD.out ?_;go_wp2_with fail;go_ret2;exact⟨rfl,up h (by omega)⟩
 ·obtain⟨e1,e2⟩:=tH (x:=x) (s:=s) (n:=n) (by omega)
  rw[e1,e2,he];rw[hS] at yD h0 h1 oK;have q1:Ac.Em s.u x.q S=7:=by unfold Ac.Em;rw[if_neg (by omega),if_pos h1]
  have q2:Ac.Eo s.u x.q S=s.u:=by unfold Ac.Eo;rw[if_neg (by omega),if_pos h1]
  have HC:=af (xA h (i:=2) rfl S (by unfold aI;omega) q1 q2);have c0:=IL h;clear hS oK jS e1 e2 he h1 q1 q2 aM h;go_enter func199,ntmps199;go_wp2_with fail;refine bH yD.out ?_;go_wp2_with fail;refine aP HC.out λw2 h2=>?_
  go_wp2_with fail;go_ret2;exact⟨rfl,up h2 (by omega)⟩
 ·obtain⟨e1,e2⟩:=tH (x:=x) (s:=s) (n:=n) (by omega)
  rw[e1,e2,he];rw[hS] at yD h0 h1 oK;obtain⟨f0,f1,f2⟩:=jS;have q1:Ac.Em s.u x.q S=0:=by unfold Ac.Em;rw[if_neg (by omega),if_neg h1]
  have q2:Ac.Eo s.u x.q S=s.u+S:=by unfold Ac.Eo;rw[if_neg (by omega),if_neg h1]
  have q3:Ac.Ya (s.u+S) S=0:=by unfold Ac.Ya;rw[if_neg (by omega),if_neg (by omega)]
  have q4:Ac.Yb (s.u+S) S=s.u:=by unfold Ac.Yb;rw[if_neg (by omega),if_neg (by omega)];omega
  have HC:=af (xA h (i:=2) rfl S (by unfold aI;omega) q1 q2);have HT:=af (aen t1 (aen t2 (aen t3 (aen t4 (aen q3 q4)))));have c0:=IL h;clear hS oK e1 e2 he h1 q1 q2 aM h t1 t2 t3 t4 q3 q4 f0 f1 f2;go_enter func199,ntmps199;go_wp2_with fail;refine bH yD.out ?_;go_wp2_with fail;refine aP HC.out λw2 h2=>?_
  have c0:=vW (s:={ s with u:=s.u+S }) h2;clear HC yD;go_wp2_with fail;refine(Ll h2 (i:=1) rfl n).mono ?_;rw[HT.out.1,HT.out.2.1,HT.out.2.2.1,HT.out.2.2.2.1];rintro e w3 ⟨rfl,h3⟩;have c0:=IL (s:={ s with u:=s.u+S }) h3;clear h2;go_wp2_with fail;refine aP (EK h3 (i:=2) rfl S HT.out.2.2.2.2.1 HT.out.2.2.2.2.2) λw4 h4=>?_
  clear h3;go_wp2_with fail;go_ret2;exact⟨rfl,up h4 (by omega)⟩
 ·obtain⟨i,z,a1,hi,hz,ht,hc,a3,a2,h0,h1⟩:=xw aM he
  have ev:Bw x s n=i:=by unfold Bw;rw[if_pos he,a1]
  have hb:=rO aM hi;have Q_:Rt.okB (i:Int)=true:=Rt.iU (by omega) (by omega);have hadd:Rt.lj s.r i=Rt.dN i s.r:=by simp[Rt.lj,Q_]
  have es:qb x s n=⟨s.cs.set i ⟨z.c,z.g,true⟩,vO s.p n,s.ct.set i 1,s.vs,s.u+bV n,Rt.dN (i:Int) s.r,s.k,s.q,tick s.ch⟩:=by unfold qb;rw[if_pos he,a1,a3,Int.toNat_natCast]
  rw[ev,es,he];have ku:(s.cs.set i ⟨z.c,z.g,true⟩)[i]?=some ⟨z.c,z.g,true⟩:=by rw[at_set hz,if_pos rfl]
  have Y2:=Q6 (ct:=s.ct) (c:=1) ku rfl (by omega);rw[hS] at yD h0 h1 oK ⊢;obtain⟨f0,f1,f2⟩:=jS;have q1:Ac.Em s.u x.q S=0:=by unfold Ac.Em;rw[if_neg (by omega),if_neg h1]
  have q2:Ac.Eo s.u x.q S=s.u+S:=by unfold Ac.Eo;rw[if_neg (by omega),if_neg h1]
  have HC:=af (xA h (i:=2) rfl S (by unfold aI;omega) q1 q2);have HT:=af (aen a1 (aen a2 (aen a3 (aen Y2 hadd))));have c0:=IL h;have ig:(i:Int)<=9223372036854775807:=by omega
  have vJ:aI i:=by unfold aI;omega
  have HI:=af vJ;clear hS oK ev es he h1 q1 q2 aM h a1 a2 a3 f0 f1 f2 hz ht hc ku Y2 hb Q_ hadd vJ;go_enter func199,ntmps199;go_wp2_with fail;refine bH yD.out ?_;go_wp2_with fail;refine aP HC.out λw2 h2=>?_
  have c1:=vW (s:={ s with u:=s.u+S }) h2;clear HC yD c0;go_wp2_with fail;refine(Ll h2 (i:=1) rfl n).mono ?_;rw[HT.out.1,HT.out.2.1,HT.out.2.2.1];rintro e w3 ⟨rfl,h3⟩;have c0:=vW (s:=⟨s.cs.set i ⟨z.c,z.g,true⟩,vO s.p n,s.ct,s.vs,s.u+S,s.r,s.k,s.q,s.ch⟩) h3;clear h2 c1;go_wp2_with fail;refine(Rq h3 (i:=1) rfl i 1 ig).mono ?_;rw[HT.out.2.2.2.1.1,HT.out.2.2.2.1.2];rintro e w4 ⟨rfl,h4⟩;have c1:=Q5 (s:=⟨s.cs.set i ⟨z.c,z.g,true⟩,vO s.p n,s.ct.set i 1,s.vs,s.u+S,s.r,s.k,s.q,s.ch⟩) h4;clear h3 c0;go_wp2_with fail;refine(Q1 h4 (i:=3) rfl i HI.out).mono ?_;rw[HT.out.2.2.2.2];rintro e w5 ⟨rfl,h5⟩;obtain⟨c0,k0⟩:=yP (s:=⟨s.cs.set i ⟨z.c,z.g,true⟩,vO s.p n,s.ct.set i 1,s.vs,s.u+S,Rt.dN (i:Int) s.r,s.k,s.q,s.ch⟩) h5;have h6:=Sy.qJ (s:=⟨s.cs.set i ⟨z.c,z.g,true⟩,vO s.p n,s.ct.set i 1,s.vs,s.u+S,Rt.dN (i:Int) s.r,s.k,s.q,s.ch⟩) h5;have H6:=af h6;clear h4 c1 h5 h6;go_wp2_with fail;go_ret2;exact⟨rfl,up H6.out (by omega)⟩
theorem ο (h:Sy F0 w0 (hp T K I x L0 s ts) w)(aM:Ok x s)(n:Int)(hn:aI n)(hq:s.q.length<=1000){e0:Int}(he:tC x s n=e0) :
  aG 203 #[ai (some ⟨I.h,0,none⟩),Z ag n] w (Z ag e0) λw'=>Sy F0 w0 (hp T K I x L0 (rL x s n) ts) w':=by
 have qX:n<=9223372036854775807:=hn.2;have HN:=af hn;have HQ:=af hq;subst he;cases hb:dk n x.n
 ·have e1:tC x s n=1:=by simp[tC,hb]
  have e2:rL x s n=s:=by unfold rL;rw[e1,if_neg (by omega)]
  rw[e1,e2];clear hn hq aM e1 e2;go_enter func203,ntmps203;go_wp2_with fail;refine aP (uU h n qX hb) λw1 h1=>?_
  go_wp2_with fail;go_ret;exact⟨rfl,up h1 (by omega)⟩
 ·have nR:=iT aM.may hb
  cases hh:Rt.hasB s.r n
  ·have e1:tC x s n=9:=by simp[tC,hb,hh]
   have e2:rL x s n=s:=by unfold rL;rw[e1,if_neg (by omega)]
   have e3:Rt.eC s.r n=9:=by simp[Rt.eC,nR,hh]
   have e4:Rt.ef s.r n=s.r:=Rt.pH hh;rw[e1,e2];have HE:=af (aen e3 e4);clear hn hq aM e1 e2 e3 e4 nR hh;go_enter func203,ntmps203;go_wp2_with fail;refine aP (uU h n qX hb) λw1 h1=>?_
   have c0:=Q5 h1;clear hb h;go_wp2_with fail;refine(BI h1 (i:=3) rfl n HN.out HE.out.1).mono ?_;rw[HE.out.2];rintro e w2 ⟨rfl,h2⟩;go_wp2_with fail;go_ret;exact⟨rfl,up h2 (by omega)⟩
  ·have e1:tC x s n=0:=by simp[tC,hb,hh]
   have e2:rL x s n={ s with r:=Rt.aZ n s.r,q:=s.q++[n],ch:=tick s.ch }:=by unfold rL;rw[e1,if_pos rfl]
   have e3:Rt.eC s.r n=0:=by simp[Rt.eC,nR,hh]
   have e4:Rt.ef s.r n=Rt.aZ n s.r:=by simp[Rt.ef,nR]
   have e5:Qu.fB s.q n=s.q++[n]:=by simp[Qu.fB,nR]
   rw[e1,e2];have HE:=af (aen e3 (aen e4 e5));clear hn hq aM e1 e2 e3 e4 e5 nR hh;go_enter func203,ntmps203;go_wp2_with fail;refine aP (uU h n qX hb) λw1 h1=>?_
   have c0:=Q5 h1;clear hb h;go_wp2_with fail;refine(BI h1 (i:=3) rfl n HN.out HE.out.1).mono ?_;rw[HE.out.2.1];rintro e w2 ⟨rfl,h2⟩;have c1:=Yj (s:={ s with r:=Rt.aZ n s.r }) h2;clear c0 h1;go_wp2_with fail;refine(IJ h2 (i:=5) rfl n HN.out HQ.out).mono ?_;rw[HE.out.2.2];rintro e w3 ⟨rfl,h3⟩;obtain⟨c0,k0⟩:=yP (s:={ s with r:=Rt.aZ n s.r,q:=s.q++[n] }) h3;have H4:=af (Sy.qJ (s:={ s with r:=Rt.aZ n s.r,q:=s.q++[n] }) h3);clear c1 h2 h3;go_wp2_with fail;go_ret;exact⟨rfl,up H4.out (by omega)⟩
theorem π (h:Sy F0 w0 (hp T K I x L0 s ts) w)(n:Int)(hn:aI n){e0:Int}(he:qD x s n=e0) :
  aG 206 #[ai (some ⟨I.h,0,none⟩),Z ag n] w (Z ag e0) λw'=>Sy F0 w0 (hp T (K+2) I x L0 (lZ x s n) ts) w':=by
 have qX:n<=9223372036854775807:=hn.2;have HN:=af hn;subst he;by_cases hl:kh x s n=0
 ·have hmay:=Ys h
  have eT:dk n x.n=true:=by
   unfold kh at hl;split at hl
   ·assumption
   ·cases hl
  have nR:=iT hmay eT;cases hh:Rt.hasB s.r n
  ·by_cases hu:yO s n=0
   ·have e1:qD x s n=0:=by unfold qD;rw[if_pos hl,hh,if_neg (by simp),hu]
    have e2:lZ x s n={ s with ct:=IB s n,r:=Rt.dN n s.r,ch:=tick s.ch }:=by unfold lZ;rw[if_pos ⟨hl,hh,hu⟩]
    have e3:Rt.lj s.r n=Rt.dN n s.r:=by simp[Rt.lj,nR]
    rw[e1,e2];have HU:=af hu;have HE:=af e3;have HH:=af hh;have HL:=af hl;clear hn hmay eT nR hh hu e1 e2 e3 hl;go_enter func206,ntmps206;go_wp2_with fail;refine aP (pO h n qX HL.out) λw1 h1=>?_
    have c0:=Q5 h1;clear h;go_wp2_with fail;refine bH (Q0 h1 (i:=3) rfl n HN.out HH.out) ?_;go_wp2_with fail;refine(wm h1 n qX HL.out).mono ?_;rw[if_pos HU.out,HU.out];rintro e w3 ⟨rfl,h3⟩;have c1:=Q5 (s:={ s with ct:=IB s n }) h3;clear h1 c0;go_wp2_with fail;refine(Q1 h3 (i:=3) rfl n HN.out).mono ?_;rw[HE.out];rintro e w4 ⟨rfl,h4⟩;obtain⟨c0,k0⟩:=yP (s:={ s with ct:=IB s n,r:=Rt.dN n s.r }) h4;have H5:=af (Sy.qJ (s:={ s with ct:=IB s n,r:=Rt.dN n s.r }) h4);clear h3 h4 c1;go_wp2_with fail;go_ret;exact⟨rfl,up H5.out (by omega)⟩
   ·have ξ:yO s n=8:=by
     unfold yO at hu ⊢;split
     ·rfl
     ·rename_i hq;rw[if_neg hq] at hu;exact absurd rfl hu
    have e1:qD x s n=8:=by unfold qD;rw[if_pos hl,hh,if_neg (by simp),ξ]
    have e2:lZ x s n=s:=by unfold lZ;rw[if_neg (λhq=>hu hq.2.2)]
    rw[e1,e2];have HU:=af ξ;have HU0:=af hu;have HH:=af hh;have HL:=af hl;clear hn hmay eT nR hh hu ξ e1 e2 hl;go_enter func206,ntmps206;go_wp2_with fail;refine aP (pO h n qX HL.out) λw1 h1=>?_
    have c0:=Q5 h1;clear h;go_wp2_with fail;refine bH (Q0 h1 (i:=3) rfl n HN.out HH.out) ?_;go_wp2_with fail;refine(wm h1 n qX HL.out).mono ?_;rw[if_neg HU0.out,HU.out];rintro e w3 ⟨rfl,h3⟩;go_wp2_with fail;go_ret;exact⟨rfl,up h3 (by omega)⟩
  ·have e1:qD x s n=0:=by unfold qD;rw[if_pos hl,if_pos hh]
   have e2:lZ x s n=s:=by unfold lZ;rw[if_neg (λhq=>by rw[hh] at hq;cases hq.2.1)]
   rw[e1,e2];have HH:=af hh;have HL:=af hl;clear hn hmay eT nR hh e1 e2 hl;go_enter func206,ntmps206;go_wp2_with fail;refine aP (pO h n qX HL.out) λw1 h1=>?_
   have c0:=Q5 h1;clear h;go_wp2_with fail;refine bH (Q0 h1 (i:=3) rfl n HN.out HH.out) ?_;go_wp2_with fail;go_ret;exact⟨rfl,up h1 (by omega)⟩
 ·have e1:qD x s n=kh x s n:=by unfold qD;rw[if_neg hl]
  have e2:lZ x s n=s:=by unfold lZ;rw[if_neg (λhq=>hl hq.1)]
  rw[e1,e2];obtain⟨E,hE⟩:∃ E,kh x s n=E:=⟨_,rfl⟩
  rw[hE] at hl ⊢;clear hn e1 e2;go_enter func206,ntmps206;go_wp2_with fail;refine aP (pO h n qX hE) λw1 h1=>?_
  clear hE;go_wp2_with fail;go_ret;exact⟨rfl,up h1 (by omega)⟩
end
end ca
end Hp
end
section
namespace Tn
open Hp Go.RowKit
def An.val (a:An):az:=.agg #[Z ag a.e,Z ag a.k,Z ah a.w]
theorem bw {fn:Func}{p:Tmp}{R:Ending->av->Prop}{a:Act}{w:av}{g:Nat}{x y z:az}(hA:bA w g 37 [x,y,z])(h:fn.results=#[.cell p 37])(hp:a.tmps.getD p undef = ai (some ⟨g,0,none⟩))(hd:a.defers=[])(hR:R (.returned (.agg #[x,y,z])) w):bodyPost prog fn R .ret a w :=bodyPost_ret (results_cell_row h _ _ g 37 _ (0,0) _ hp hA underlying37 rfl (by kernel_rfl)) hd hR
theorem bm {fn:Func}{p:Tmp}{S:av->Prop}{a:Act}{w:av}{g:Nat}{x y z:az}(hA:bA w g 37 [x,y,z]/\S w)(h:fn.results=#[.cell p 37])(hp:a.tmps.getD p undef = ai (some ⟨g,0,none⟩))(hd:a.defers=[]):bodyPost prog fn (λe w'=>e = .returned (.agg #[x,y,z])/\S w') .ret a w :=bw hA.1 h hp hd ⟨rfl,hA.2⟩
def bj (n:Int):Prop:=0<=n/\n<=18446744073709551615
def lK (TP:Nat->Int->Ids->Nat->Part)(F0:List Nat)(w0:av)(T K:Int)(I:Ids)(x:Sh)(L0:iR)(N:Int)(tb cb:Nat)(c:Cs)(s:Hs)(ts:List Part)(w:av):Prop :=(1<=N/\N<=16/\s.ch<=4611686018427300000/\s.all.length<=800)/\ca.gQ F0 w0 T K I x L0 cb c s (TP tb N I cb::ts) w
def bS (TP:Nat->Int->Ids->Nat->Part)(F0:List Nat)(w0:av)(T K:Int)(I:Ids)(x:Sh)(L0:iR)(N:Int)(tb cb:Nat)(c:Cs)(s:Hs)(ts:List Part)(w:av):Prop :=ca.gQ F0 w0 T K I x L0 cb c s (TP tb N I cb::ts) w
def Fh.ok (a:Fh):Prop:=(0<=a.k/\a.k<=255)/\bj a.w/\bj a.o/\aI a.n/\aI a.m
section
variable {x:Sh}{N:Int}{s t:Hs}{c:Cs}{pc:Pc}
theorem abo (n:Int):zN x s ⟨0,0,n,0,0⟩=qb x s n:=rfl
theorem abp (n:Int):zN x s ⟨2,n,0,0,0⟩=lZ x s n:=rfl
theorem abq (n:Int):zN x s ⟨3,n,0,0,0⟩=rL x s n:=rfl
theorem Si (n k:Int)(y:Vl):zN x s ⟨4,n,k,y.k,y.n⟩=kn x s n k y:=rfl
theorem abr (n:Int):zN x s ⟨6,0,n,0,0⟩=lO x n.toNat s:=rfl
theorem kT (d:Int):aI (bP d):=by unfold aI bP;omega
theorem eW {k a b e f:Int}(h0:0<=k)(h1:k<=255)(h2:aI a)(h3:aI b)(h4:aI e)(h5:0<=f)(h6:f<=18446744073709551615):jv.ok ⟨k,a,b,e,f⟩:=⟨h0,h1,h2,h3,h4,h5,h6⟩
theorem Sj (hr:∀ n k,aI (ij x s.cs s.vs n k).n)(a:Fh)(ha:a.ok):Lj x s c a=c/\(Fj x N s c a=s\/∃ b:jv,b.ok/\Fj x N s c a=zN x s b)\/∃ n:Nat,n<=65536/\Fj x N s c a=rT x n c s/\Lj x s c a=tM x n c s:=by
 obtain⟨_,h2,h3,h4,h5⟩:=ha;have i0:aI 0:=by unfold aI;omega
 by_cases k7:a.k % 10=7/\cZ a.n=true
 ·refine aeH ⟨a.n.toNat,?_,?_,?_⟩
  ·have:=k7.2
   unfold cZ at this;simp only[aez,decide_eq_true_eq] at this;omega
  ·unfold Fj
   rw[if_neg (by omega),if_neg (by omega),if_neg (by omega),if_neg (by omega),if_neg (by omega),if_pos k7.1,if_pos k7.2]
  ·unfold Lj
   rw[if_pos k7]
 refine aeG ⟨by unfold Lj;rw[if_neg k7],?_⟩;unfold Fj;split
 ·unfold ef
  split
  ·exact aeH ⟨⟨3,bP a.w,0,0,0⟩,eW (by decide) (by decide) (kT _) (i0) (i0) (by decide) (by decide),(abq _).symm⟩
  ·exact aeG rfl
 split
 ·unfold ql
  split
  ·exact aeH ⟨⟨2,_,0,0,0⟩,eW (by decide) (by decide) (hr _ _) (i0) (i0) (by decide) (by decide),(abp _).symm⟩
  ·exact aeG rfl
 split
 ·unfold lJ
  split
  ·exact aeH ⟨⟨4,bP a.w,a.n,1,a.o⟩,eW (by decide) (by decide) (kT _) (h4) (by unfold aI;decide) (h3.1) (h3.2),(Si _ _ ⟨1,a.o⟩).symm⟩
  ·exact aeG rfl
 split
 ·unfold jy
  split
  ·split
   ·exact aeH ⟨⟨4,bP a.w,a.n,0,0⟩,eW (by decide) (by decide) (kT _) (h4) (i0) (by decide) (by decide),(Si _ _ ⟨0,0⟩).symm⟩
   ·split
    ·exact aeH ⟨⟨4,bP a.w,a.n,2,bP a.o⟩,eW (by decide) (by decide) (kT _) (h4) (by unfold aI;decide) (by unfold bj at h3;unfold bP;omega) (by unfold bj at h3;unfold bP;omega),(Si _ _ ⟨2,bP a.o⟩).symm⟩
    ·exact aeG rfl
  ·exact aeG rfl
 split
 ·split
  ·exact aeH ⟨⟨6,0,a.n,0,0⟩,eW (by decide) (by decide) (i0) (h4) (i0) (by decide) (by decide),(abr _).symm⟩
  ·exact aeG rfl
 split
 ·rename_i e7
  split
  ·rename_i e8
   exact absurd ⟨e7,e8⟩ k7
  ·exact aeG rfl
 split
 ·exact aeG rfl
 split
 ·exact aeG rfl
 ·exact aeH ⟨⟨0,0,a.n,0,0⟩,eW (by decide) (by decide) (i0) (h4) (i0) (by decide) (by decide),(abo _).symm⟩
theorem NN (h:CR x c pc s)(h1:s.ch<=4611686018427300000)(hf:s.all.length<=800)(hr:∀ n k,aI (ij x s.cs s.vs n k).n)(a:Fh)(ha:a.ok) :
  (Fj x N s c a).ch<=s.ch+65536/\(Fj x N s c a).all.length<=s.all.length+1:=by
 rcases Sj (N:=N) hr a ha with ⟨_,e | ⟨b,hb,e⟩⟩ | ⟨n,hn,e,_⟩
 ·rw[e]
  exact⟨by omega,by omega⟩
 ·rw[e]
  have h2:=(h.ok.do_ b hb).2;exact⟨by have:=(h.do_ b hb (by omega) (by omega)).2;omega,h2⟩
 ·rw[e]
  obtain⟨k1,k2,_⟩:=h.st n (by omega);exact⟨by omega,by omega⟩
end
section
variable {x:Sh}{N:Int}{s t:Hs}{c:Cs}{pc:Pc}{l:List (Int × Bool)}
theorem NP (h:Ok x s):∀ i ∈ s.r,aS s.cs i=true:=λi hi=>h.xx (by simp[Hs.all,hi])
theorem Sm (h:Ok x s):∀ z,dk z x.n=true->0<=bL s.cs z/\bL s.cs z<=4294967295:=by
 intro z hz;have h1:=dP hz;obtain⟨i,rfl⟩:∃ i:Nat,z=i:=⟨z.toNat,by omega⟩
 obtain⟨y,hy⟩:∃ y,s.cs[i]?=some y:=⟨_,aD (by rw[h.l1];omega)⟩
 rw[Ry hy];obtain⟨_,_,h2,h3,_⟩:=h.inv.cell i y hy;exact⟨by omega,h3⟩
theorem qO (h:Ok x s)(n k:Int):aI (ij x s.cs s.vs n k).n:=by
 have uC:aI (Vl.nil).n:=by show aI 0;unfold aI;omega
 unfold ij;split
 ·unfold vz
  cases hr:s.vs[n.toNat]? with
  | none=>simpa using uC
  | some l =>
   show aI (l[k.toNat]?.getD Vl.nil).n;cases hv:l[k.toNat]? with
   | none=>exact uC
   | some y =>
    obtain⟨h1,h2⟩:=h.yB _ l hr y (aE hv);show aI y.n;unfold Wd.aK Wd.pY Wd.pZ Wd.p_ at h2;simp only[aga,aez,decide_eq_true_eq,beq_iff_eq] at h2;unfold aI;omega
 ·exact uC
theorem Fp (n:Int):(lZ x s n).cs=s.cs:=by unfold lZ;split <;> rfl
end
section
variable {x:Sh}{s:Hs}
theorem BZ (h:Ok x s)(z:Int):0<=bL s.cs z/\bL s.cs z<=4294967295:=by
 cases hz:dk z x.n
 ·have h1:bL s.cs z=0:=by unfold bL;rw[h.l1,hz];rfl
  omega
 ·exact Sm h z hz
theorem Ft (h:Ok x s)(n k:Int):0<=(ij x s.cs s.vs n k).n:=by
 have uC:0<=(Vl.nil).n:=by decide
 unfold ij;split
 ·unfold vz
  cases hr:s.vs[n.toNat]? with
  | none=>simpa using uC
  | some l =>
   show 0<=(l[k.toNat]?.getD Vl.nil).n;cases hv:l[k.toNat]? with
   | none=>exact uC
   | some y =>
    obtain⟨h1,h2⟩:=h.yB _ l hr y (aE hv);show 0<=y.n;unfold Wd.aK Wd.pY Wd.pZ Wd.p_ at h2;simp only[aga,aez,decide_eq_true_eq,beq_iff_eq] at h2;omega
 ·exact uC
theorem abt {n:Int}(aM:Ok x s)(h:qD x s n=0):0<=n/\n<=67108863:=by
 have h1:kh x s n=0:=by
  unfold qD at h;split at h
  ·assumption
  ·exact h
 cases eT:dk n x.n
 ·unfold kh at h1
  rw[eT] at h1;simp at h1
 ·have:=dP eT
  have:=(Sh.rr aM.may).2.2;omega
end
end Tn
end
section
namespace Hp
namespace ca
open Go.RowKit
section
variable {F0:List Nat}{w0 w w':av}{ts ts':List Part}{I:Ids}{x:Sh}{L0:iR}{s:Hs}{T K:Int}{cb:Nat}{c:Cs}{p q:Part}
theorem gQ.perm (h:gQ F0 w0 T K I x L0 cb c s ts w)(nH:ts.Perm ts'):gQ F0 w0 T K I x L0 cb c s ts' w:=by obtain⟨pc,v,z,h1,h2⟩:=h;refine⟨pc,v,z,h1,h2.perm ?_⟩;exact List.Perm.append_left (hp T K I x L0 s []) (List.Perm.append_left (cop I cb v z pc) nH)
theorem pS {pc:Pc}{v:az}{z:Rz}:(p::hp T K I x L0 s (cop I cb v z pc++ts)).Perm (hp T K I x L0 s (cop I cb v z pc++p::ts)):=by have h1:(p::(hp T K I x L0 s (cop I cb v z pc)++ts)).Perm (hp T K I x L0 s (cop I cb v z pc)++p::ts):=List.perm_middle.symm;have e1:hp T K I x L0 s (cop I cb v z pc)++ts=hp T K I x L0 s (cop I cb v z pc++ts):=rfl;have e2:hp T K I x L0 s (cop I cb v z pc)++p::ts=hp T K I x L0 s (cop I cb v z pc++p::ts):=rfl;rw[<- e1,<- e2];exact h1
theorem gQ.more (h:gQ F0 w0 T K I x L0 cb c s ts w)(hb:aF w w'):gQ F0 w0 T K I x L0 cb c s ts w':=by obtain⟨pc,v,z,h1,h2⟩:=h;exact⟨pc,v,z,h1,h2.more hb⟩
theorem gQ.up (h:gQ F0 w0 T K I x L0 cb c s ts w){K':Int}(hK:K<=K'):gQ F0 w0 T K' I x L0 cb c s ts w:=by obtain⟨pc,v,z,h1,h2⟩:=h;exact⟨pc,v,z,h1,ca.up h2 hK⟩
theorem gQ.cr (h:gQ F0 w0 T K I x L0 cb c s ts w):∃ pc,CR x c pc s:=by obtain⟨pc,v,z,h1,h2⟩:=h;exact⟨pc,h1⟩
theorem gQ.first (h:gQ F0 w0 T K I x L0 cb c s (p::ts) w):∃ us,Sy F0 w0 (p::us) w/\∀ {w':av} {q:Part},Sy F0 w0 (q::us) w'->gQ F0 w0 T K I x L0 cb c s (q::ts) w':=by obtain⟨pc,v,z,h1,h2⟩:=h;exact⟨hp T K I x L0 s (cop I cb v z pc++ts),h2.perm pS.symm,λh3=>⟨pc,v,z,h1,h3.perm pS⟩⟩
theorem gQ.drop (h:gQ F0 w0 T K I x L0 cb c s (p::ts) w):gQ F0 w0 T K I x L0 cb c s ts w:=by obtain⟨pc,v,z,h1,h2⟩:=h;exact⟨pc,v,z,h1,(h2.perm pS.symm).tail⟩
theorem gQ.box (h:gQ F0 w0 T K I x L0 cb c s ts w)(a:Array az)(t:TypeId):gQ F0 w0 T K I x L0 cb c s (aQ w.heap.size t a.toList::ts) (w.alloc (.cells a t)):=by obtain⟨pc,v,z,h1,h2⟩:=h;exact⟨pc,v,z,h1,(h2.box a t).perm pS⟩
theorem gQ.blk {b:Nat}{t:TypeId}{cs:List az}(h:gQ F0 w0 T K I x L0 cb c s (aQ b t cs::ts) w):bA w b t cs:=by obtain⟨us,h1,_⟩:=h.first;exact h1.blk (i:=0) rfl
theorem gQ.set {b:Nat}{t:TypeId}{cs:List az}(h:gQ F0 w0 T K I x L0 cb c s (aQ b t cs::ts) w)(j:Nat)(v:az):gQ F0 w0 T K I x L0 cb c s (aQ b t (cs.set j v)::ts) (w.setCell ⟨b,j,none⟩ v):=by obtain⟨us,h1,h2⟩:=h.first;exact h2 (h1.put (i:=0) rfl j v)
end
end ca
end Hp
namespace Tn
open Hp Go.RowKit
section
variable {TP:Nat->Int->Ids->Nat->Part}{F0:List Nat}{w0 w w':av}{T K N:Int}{I:Ids}{x:Sh}{L0:iR}{tb cb:Nat}{c c':Cs}{s s':Hs}{ts:List Part}
theorem lK.box (h:lK TP F0 w0 T K I x L0 N tb cb c s ts w)(a:Array az)(t:TypeId):lK TP F0 w0 T K I x L0 N tb cb c s (aQ w.heap.size t a.toList::ts) (w.alloc (.cells a t)) :=⟨h.1,(h.2.box a t).perm (List.Perm.swap _ _ _)⟩
theorem bS.blk {b:Nat}{t:TypeId}{cs:List az}(h:bS TP F0 w0 T K I x L0 N tb cb c s (aQ b t cs::ts) w):bA w b t cs:=(ca.gQ.perm h (List.Perm.swap _ _ _)).blk
theorem bS.set {b:Nat}{t:TypeId}{cs:List az}(h:bS TP F0 w0 T K I x L0 N tb cb c s (aQ b t cs::ts) w)(j:Nat)(v:az):bS TP F0 w0 T K I x L0 N tb cb c s (aQ b t (cs.set j v)::ts) (w.setCell ⟨b,j,none⟩ v) :=((ca.gQ.perm h (List.Perm.swap _ _ _)).set j v).perm (List.Perm.swap _ _ _)
theorem bS.drop {p:Part}(h:bS TP F0 w0 T K I x L0 N tb cb c s (p::ts) w):bS TP F0 w0 T K I x L0 N tb cb c s ts w:=(ca.gQ.perm h (List.Perm.swap _ _ _)).drop
theorem bS.up (h:bS TP F0 w0 T K I x L0 N tb cb c s ts w){K':Int}(hK:K<=K'):bS TP F0 w0 T K' I x L0 N tb cb c s ts w:=ca.gQ.up h hK
end
end Tn
end
section
namespace Tn
open Hp Go.RowKit
theorem An.is {a:An}{e k w:Int}(h:a.e=e/\a.k=k/\a.w=w):a=⟨e,k,w⟩:=by cases a;obtain⟨rfl,rfl,rfl⟩:=h;rfl

def jU (t:TypeId)(u:az)(xs:List az):Part where
 on w F:=w.ownsRow 0 t 1 u xs.length xs/\F=Qu.blks u
 only:=λ⟨h,e⟩ ho _ hS=>by subst e;exact⟨oM h ho (λg hg=>hS g (Qu.aU.2 hg)),rfl⟩
 lt:=λ⟨h,e⟩ g hg=>by subst e;exact(World.ownsRow.lt h g (Qu.aU.1 hg)).2
section
variable {F0:List Nat}{w0 w w':av}{rs ts:List Part}{j:Nat}{t:TypeId}{u:az}{xs:List az}{I:Ids}{x:Sh}{L0:iR}{s:Hs}{cb:Nat}{c:Cs}
theorem rw_row (h:Sy F0 w0 rs w)(hj:nth rs j=some (jU t u xs)):w.ownsRow 0 t 1 u xs.length xs:=by obtain⟨F,⟨h1,_⟩,_⟩:=h.at_ hj;exact h1
theorem lC (h:Sy F0 w0 rs w)(hj:nth rs j=some (jU t u xs)):∃ A cap,u = am A xs.length cap/\xs.length<=cap/\cap<=9223372036854775807:=by
 rcases (rw_row h hj).2 with ⟨rfl,h0⟩ | ⟨g',cap,cur,rfl,_,_,h1,h2,_⟩
 ·exact⟨none,0,by rw[h0],by omega,by omega⟩
 ·exact⟨_,cap,rfl,h1,by simp only[maxLen] at h2;omega⟩
theorem nk {A:Option Addr}{n cap k:Nat}{v:az}(h:Sy F0 w0 rs w)(hj:nth rs j=some (jU t (am A n cap) xs))(hv:xs[k]?=some v):∃ g,A=some ⟨g,0,none⟩/\g<w.heap.size/\w.cell? ⟨g,k,none⟩=some v/\w.frozen? ⟨g,k,none⟩=false:=by
 have hr:=rw_row h hj;have hk:=(aC.1 hv).1;rcases hr.2 with ⟨e,h0⟩ | ⟨g,cap',cur,e,_,hg,_⟩
 ·omega
 ·simp only[Value.slice.injEq] at e
  obtain⟨rfl,rfl,rfl⟩:=e;refine⟨g,rfl,(Array.getElem?_eq_some_iff.1 hg).1,?_,hr.frozenAt k⟩;rw[hr.cellAt k (by omega)];exact hv
theorem ς {g n cap k:Nat}{v:az}(h:Sy F0 w0 rs w)(hj:nth rs j=some (jU t (am (some ⟨g,0,none⟩) n cap) xs)):Sy F0 w0 (Hp.put rs j (jU t (am (some ⟨g,0,none⟩) n cap) (xs.set k v))) (w.setCell ⟨g,k,none⟩ v):=by obtain⟨F,⟨h1,rfl⟩,_,hk⟩:=h.at_ hj;refine hk _ _ (Qu.blks (am (some ⟨g,0,none⟩) n cap)) ⟨?_,rfl⟩ (Step.same ((Only.refl _ _).setCell (aeG (by simp[Qu.blks,Value.ownBlock])) v));rw[List.length_set];exact xc h1 rfl k v
end
end Tn
end
section
namespace Tn
open Hp
open Go.ChangeShapes Go.WideShapes Go.ChangeAt Go.WideMaps Go.WideElems Go.RowKit Go.Deep
section
variable {H:Type}{enc:TypeId × az->H}{w:av}{base:Nat}{held:Bool}{fuel:Nat}{cs:List az}{y:DataW H × List MemPlace}
theorem Sr {n:Int}(h:Lit.wf (.int ah n)=true):bj n:=by have:=bounds_u64 h;unfold bj;omega
end
end Tn
end
end Go.Proofs.YtdhgpmndgcggfaaGreatDoor
