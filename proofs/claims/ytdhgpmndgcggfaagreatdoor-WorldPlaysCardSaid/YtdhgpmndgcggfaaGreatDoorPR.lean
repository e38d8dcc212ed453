/- Plain: a tab -/
import Derived.Test.YtdhgpmndgcggfaaGreatDoorPN
set_option maxRecDepth 100000
set_option maxHeartbeats 1600000
namespace Go.Proofs.YtdhgpmndgcggfaaGreatDoor
open _root_.Go.Proofs.Tryz
open Lib renaming hid → af
open Value renaming int → Z, pointer → ai, tuple → ao, agg → au
open IntKind renaming i64 → ag
open Ending renaming returned → aj
open Go renaming World → av, Calls → ay, Value → az
open List renaming getElem?_eq_some_iff → aC, getElem?_eq_getElem → aD, mem_of_getElem? → aE, mem_cons_self → aer, mem_cons → aev, mem_filter → aew, replicate → aeK, length_set → aeY, getElem?_eq_none → ae1, getElem?_set_self → ae4, mem_map → ae6, not_mem_nil → ae8, mem_singleton → afh, drop_eq_getElem_cons → afm, filter_cons → afu, replicate_succ' → afA, mem_or_eq_of_mem_set → afH, set_set → afN
open Option.some renaming inj → ael
open Nat renaming le_refl → aem, zero_le → ae2, zero_add → afM
open And renaming intro → aen
open Go.RowKit.Below renaming refl → aes
open Int renaming toNat_natCast → aey
open Bool renaming and_eq_true → aez
open Or renaming inl → aeG, inr → aeH
open RowKit renaming intOf → aeI
section
namespace Px
structure En where
 i:Int
 g:Int
 c:Int
 d:Int
def iQ:List En:=aeK 8 ⟨0,1,0,0⟩
def k_ (l:List En)(i:Int):Option En:=if i<0 then none else l[i.toNat]?
def Fv (c g:Int):Bool:=decide (0<=c) && decide (c<=191) && decide (0<=g) && decide (g<=4294967295)
def il (x:En):Bool:=x.i == 0 && !(x.g == 4294967295)
def ll (l:List En):Nat:=l.findIdx il
def grE (l:List En)(c g:Int):Int:=if Fv c g=true then (if ll l<l.length then 0 else 8) else 1
def nl (l:List En)(c g:Int):Int:=if grE l c g=0 then (ll l:Int) else 0
def vG (l:List En)(i:Int):Int:=match k_ l i with | some x=>x.g | none=>0
def mI (l:List En)(c g:Int):List En:=if grE l c g=0 then l.set (ll l) ⟨1,vG l (ll l),c,g⟩ else l
def Fz (l:List En)(i:Int):Int:=match k_ l i with | some x=>if x.i=1 then 0 else 9 | none=>1
def wo (l:List En)(i:Int):List En:=match k_ l i with | some x=>if x.i=1 then l.set i.toNat ⟨2,x.g,0,0⟩ else l | none=>l
def nY (l:List En)(i g:Int):Int:=match k_ l i with | some x=>if x.g<g then 4 else if g<x.g\/x.i=0 then 5 else 0 | none=>4
def wq (l:List En)(i g:Int):Int:=match k_ l i with | some x=>if nY l i g=0 then (if x.i=2 then 6 else 0) else nY l i g | none=>4
def FA (l:List En)(i g:Int):Int:=match k_ l i with | some x=>if wq l i g=0 then x.c else 0 | none=>0
def Jh (l:List En)(i g:Int):Int:=match k_ l i with | some x=>if wq l i g=0 then x.d else 0 | none=>0
def xM (l:List En)(i g:Int):List En:=match k_ l i with | some x=>if nY l i g=0 then l.set i.toNat ⟨0,x.g+1,0,0⟩ else l | none=>l
structure En.ok (x:En):Prop where
 g1:1<=x.g
 g2:x.g<=4294967295
 k:x.i=0/\x.c=0/\x.d=0\/x.i=1/\x.g<4294967295/\(0<=x.c/\x.c<=191)/\0<=x.d/\x.d<=4294967295\/x.i=2/\x.g<4294967295/\x.c=0/\x.d=0
structure Wf (l:List En):Prop where
 len:l.length=8
 all:∀ x ∈ l,x.ok
section
variable {l:List En}{i g c:Int}
theorem lM {x:En}(h:k_ l i=some x):0<=i/\i.toNat<l.length/\l[i.toNat]?=some x:=by
 unfold k_ at h;split at h
 ·cases h
 ·exact⟨by omega,(aC.1 h).1,h⟩
theorem wu {x y:En}(h:k_ l i=some x)(j:Int):k_ (l.set i.toNat y) j=if j=i then some y else k_ l j:=by
 obtain⟨h0,h1,h2⟩:=lM h;unfold k_;by_cases hj:j<0
 ·rw[if_pos hj,if_neg (by omega),if_pos hj]
 ·rw[if_neg hj,if_neg hj,List.getElem?_set]
  by_cases e:j=i
  ·subst e
   rw[if_pos rfl,if_pos h1,if_pos rfl]
  ·rw[if_neg (by omega),if_neg e]
theorem Wf.at_ (h:Wf l){x:En}(hx:k_ l i=some x):x.ok:=h.all x (aE (lM hx).2.2)
theorem Wf.set (h:Wf l){y:En}(hy:y.ok)(n:Nat):Wf (l.set n y) :=
 ⟨by rw[aeY];exact h.len,λz hz=>by
  rcases afH hz with hz | rfl
  ·exact h.all z hz
  ·exact hy⟩
theorem Wf.beg:Wf iQ:=⟨rfl,λx hx=>by
 unfold iQ at hx;obtain rfl:=(List.mem_replicate.1 hx).2;exact⟨by show (1:Int)<=1;omega,by show (1:Int)<=4294967295;omega,aeG ⟨rfl,rfl,rfl⟩⟩⟩
theorem υ (h:ll l<l.length):∃ x,l[ll l]?=some x/\x.i=0/\x.g≠4294967295:=by unfold ll at h ⊢;have h1:=List.findIdx_getElem (w:=h);have h2:=aD h;generalize l[List.findIdx il l]=x at h1 h2;exact⟨x,h2,by unfold il at h1;simpa using h1⟩
theorem xN (h:grE l c g=0):(0<=c/\c<=191)/\(0<=g/\g<=4294967295)/\∃ x,k_ l (ll l)=some x/\x.i=0/\x.g≠4294967295/\vG l (ll l)=x.g/\nl l c g=ll l/\mI l c g=l.set (ll l) ⟨1,x.g,c,g⟩:=by
 have h':=h;unfold grE at h;split at h
 ·rename_i ha
  split at h
  ·rename_i hl
   unfold Fv at ha;simp only[aez,decide_eq_true_eq] at ha;obtain⟨x,hx,h0,h1⟩:=υ hl;have hat:k_ l (ll l)=some x:=by unfold k_;rw[if_neg (by omega),aey];exact hx
   have hg:vG l (ll l)=x.g:=by unfold vG;rw[hat]
   exact⟨⟨ha.1.1.1,ha.1.1.2⟩,⟨ha.1.2,ha.2⟩,x,hat,h0,h1,hg,by unfold nl;rw[if_pos h'],by unfold mI;rw[if_pos h',hg]⟩
  ·cases h
 ·cases h
theorem Wf.gr (h:Wf l)(c g:Int):Wf (mI l c g):=by
 by_cases he:grE l c g=0
 ·obtain⟨h1,h2,x,hx,h3,h4,_,_,e⟩:=xN he
  have hk:=h.at_ hx;have:=hk.g2;rw[e];exact h.set (y:=⟨1,x.g,c,g⟩) ⟨hk.g1,hk.g2,aeH (aeG ⟨rfl,by show x.g<_;omega,h1,h2⟩)⟩ _
 ·unfold mI
  rw[if_neg he];exact h
theorem Wf.rv (h:Wf l)(i:Int):Wf (wo l i):=by
 unfold wo;cases hx:k_ l i with
 | none=>exact h
 | some x =>
  have hk:=h.at_ hx;show Wf (if x.i=1 then _ else _);split
  ·rename_i h1
   refine h.set (y:=⟨2,x.g,0,0⟩) ⟨hk.g1,hk.g2,aeH (aeH ⟨rfl,?_,rfl,rfl⟩)⟩ _;have h2:=hk.k;show x.g<_;omega
  ·exact h
theorem FB (h:nY l i g=0):∃ x,k_ l i=some x/\x.g=g/\x.i≠0:=by
 unfold nY at h;cases hx:k_ l i with
 | none=>rw[hx] at h;cases h
 | some x =>
  rw[hx] at h;refine⟨x,rfl,?_⟩;simp only at h;split at h
  ·cases h
  ·split at h
   ·cases h
   ·omega
theorem Wf.cl (h:Wf l)(i g:Int):Wf (xM l i g):=by
 unfold xM;cases hx:k_ l i with
 | none=>exact h
 | some x =>
  have hk:=h.at_ hx;show Wf (if nY l i g=0 then _ else _);split
  ·rename_i h1
   obtain⟨y,hy,h2,h3⟩:=FB h1;rw[hx] at hy;obtain rfl:=ael hy;have h4:=hk.k;have h5:=hk.g1;exact h.set (y:=⟨0,x.g+1,0,0⟩) ⟨by show 1<=x.g+1;omega,by show x.g+1<=_;omega,aeG ⟨rfl,rfl,rfl⟩⟩ _
  ·exact h
end
end Px
end
section
namespace Px
open Go.RowKit
def En.cells (x:En):List az:=[Z ag x.i,Z ag x.g,Z ag x.c,Z ag x.d]
theorem En.cF (x:En):x.cells.length=4:=rfl
def flat (l:List En):List az:=l.flatMap En.cells
theorem xO (l:List En):(flat l).length=l.length * 4:=flat_length En.cF l
def qc (w:av)(v:az)(l:List En):Prop:=w.ownsRow 0 161 4 v l.length (flat l)
theorem Tryz.infoEn:(prog.info? 161).map (λi=>(i.zero,i.size,i.bytes))=some (some (au #[Z ag 0,Z ag 0,Z ag 0,Z ag 0]),4,32):=by kernel_rfl
section
variable {w w':av}{v u:az}{l:List En}{i:Int}
theorem qc.below (h:qc w v l)(hb:aF w w'):qc w' v l:=by
 refine⟨h.1,?_⟩;rcases h.2 with hn | ⟨g,cap,cur,rfl,hb0,J3,rest⟩
 ·exact .inl hn
 ·refine .inr ⟨g,cap,cur,rfl,hb0,?_,rest⟩
  rw[(Only.of_below (S:=[]) hb).block g (Array.getElem?_eq_some_iff.1 J3).1 (by simp)];exact J3
theorem qc.of {base:Nat}(h:w.ownsRow base 161 4 v l.length (flat l)):qc w v l:=by
 refine⟨h.1,?_⟩;rcases h.2 with hn | ⟨g,cap,cur,hv,_,rest⟩
 ·exact .inl hn
 ·exact .inr ⟨g,cap,cur,hv,ae2 _,rest⟩
theorem qc.form (h:qc w v l):∃ A cap,v = .slice A l.length cap/\l.length<=cap/\cap<=9223372036854775807/\∀ j x,l[j]?=some x->∃ g,A=some ⟨g,0,none⟩/\g<w.heap.size /\
  w.cell? ⟨g,j * 4,none⟩=some (Z ag x.i)/\w.cell? ⟨g,j * 4+1,none⟩=some (Z ag x.g)/\w.cell? ⟨g,j * 4+2,none⟩=some (Z ag x.c)/\w.cell? ⟨g,j * 4+3,none⟩=some (Z ag x.d):=by
 have hh:w.ownsRow 0 161 4 v l.length (flat l):=h;rcases h.2 with ⟨rfl,hl⟩ | ⟨g,cap,cur,rfl,_,hg,hc,hm,_⟩
 ·exact⟨none,0,by rw[hl],by omega,by omega,λj x hx=>by have:=(aC.1 hx).1;omega⟩
 ·have jh:cap<=9223372036854775807:=by simp only[maxLen] at hm;omega
  refine⟨_,cap,rfl,hc,jh,λj x hx=>⟨g,rfl,(Array.getElem?_eq_some_iff.1 hg).1,?_⟩⟩;have hj:=(aC.1 hx).1;have at_:∀ k v,k<4->x.cells[k]?=some v->w.cell? ⟨g,j * 4+k,none⟩=some v:=λk v hk hv=>by
   rw[hh.cellAt (j * 4+k) (by omega)];exact fp En.cF l j k x v hx hv
  exact⟨at_ 0 _ (by omega) rfl,at_ 1 _ (by omega) rfl,at_ 2 _ (by omega) rfl,at_ 3 _ (by omega) rfl⟩
theorem xP (l:List En)(i:Int):i<0/\k_ l i=none\/¬ i<0/\(l.length:Int)<=i/\k_ l i=none\/∃ (n:Nat) (x:En),i=n/\n<l.length/\l[n]?=some x/\k_ l i=some x:=by
 by_cases h0:i<0
 ·exact aeG ⟨h0,by unfold k_;rw[if_pos h0]⟩
 ·obtain⟨n,rfl⟩:∃ n:Nat,i=n:=⟨i.toNat,by omega⟩
  by_cases h1:n<l.length
  ·exact aeH (aeH ⟨n,l[n],rfl,h1,aD h1,by unfold k_;rw[if_neg h0,aey];exact aD h1⟩)
  ·exact aeH (aeG ⟨h0,by omega,by unfold k_;rw[if_neg h0,aey];exact ae1 (by omega)⟩)
theorem Ss {n:Nat}{x:En}(hx:l[n]?=some x)(y:En):((((flat l).set (n * 4) (Z ag y.i)).set (n * 4+1) (Z ag y.g)).set (n * 4+2) (Z ag y.c)).set (n * 4+3) (Z ag y.d)=flat (l.set n y):=by have hn:=(aC.1 hx).1;have e1:(flat l).set (n * 4+0) (Z ag y.i)=flat (l.set n ⟨y.i,x.g,x.c,x.d⟩):=fA En.cF l n 0 x ⟨y.i,x.g,x.c,x.d⟩ _ hx rfl (by omega);have e2:(flat (l.set n ⟨y.i,x.g,x.c,x.d⟩)).set (n * 4+1) (Z ag y.g)=flat ((l.set n ⟨y.i,x.g,x.c,x.d⟩).set n ⟨y.i,y.g,x.c,x.d⟩):=fA En.cF _ n 1 ⟨y.i,x.g,x.c,x.d⟩ ⟨y.i,y.g,x.c,x.d⟩ _ (ae4 hn) rfl (by omega);have e3:(flat (l.set n ⟨y.i,y.g,x.c,x.d⟩)).set (n * 4+2) (Z ag y.c)=flat ((l.set n ⟨y.i,y.g,x.c,x.d⟩).set n ⟨y.i,y.g,y.c,x.d⟩):=fA En.cF _ n 2 ⟨y.i,y.g,x.c,x.d⟩ ⟨y.i,y.g,y.c,x.d⟩ _ (ae4 hn) rfl (by omega);have e4:(flat (l.set n ⟨y.i,y.g,y.c,x.d⟩)).set (n * 4+3) (Z ag y.d)=flat ((l.set n ⟨y.i,y.g,y.c,x.d⟩).set n y):=fA En.cF _ n 3 ⟨y.i,y.g,y.c,x.d⟩ y _ (ae4 hn) rfl (by omega);rw[afN] at e2 e3 e4;rw[<- e4,<- e3,<- e2,<- e1];rfl
theorem xQ (i g:Int)(h:qc w u l):aT 177 #[u,Z ag i,Z ag g] w (Z ag (nY l i g)):=by
 obtain⟨A,cap,rfl,eQ,qf,hat⟩:=h.form;obtain⟨E,hE⟩:∃ E,nY l i g=E:=⟨_,rfl⟩
 have sU:=hE;unfold nY at sU;rcases xP l i with ⟨h0,e⟩ | ⟨h0,h1,e⟩ | ⟨n,x,rfl,hn,hx,e⟩
 ·rw[e] at sU
  have sU:4=E:=sU;rw[hE,<- sU];clear hat h e hE sU;go_enter func177,ntmps177;go_wp2_with fail;go_ret;exact⟨rfl,rfl⟩
 ·rw[e] at sU
  have sU:4=E:=sU;rw[hE,<- sU];clear hat h e hE sU;go_enter func177,ntmps177;go_wp2_with fail;go_ret;exact⟨rfl,rfl⟩
 ·rw[e] at sU
  have sU:(if x.g<g then 4 else if g<x.g\/x.i=0 then 5 else 0)=E:=sU;obtain⟨b,rfl,hg,c0,c1,c2,c3⟩:=hat n x hx;have hn':¬ ((l.length:Int)<=n):=by omega
  have kX:(n:Int)<l.length:=by omega
  rw[hE,<- sU];clear hat h e hx hE sU c2 c3;by_cases h1:x.g<g
  ·rw[if_pos h1]
   go_enter func177,ntmps177;go_wp2_with fail;go_ret;exact⟨rfl,rfl⟩
  ·rw[if_neg h1]
   by_cases h2:g<x.g
   ·rw[if_pos (aeG h2)]
    go_enter func177,ntmps177;go_wp2_with fail;go_ret;exact⟨rfl,rfl⟩
   ·by_cases h3:x.i=0
    ·rw[if_pos (aeH h3)]
     rw[h3] at c0;clear h3;go_enter func177,ntmps177;go_wp2_with fail;go_ret;exact⟨rfl,rfl⟩
    ·rw[if_neg (by rintro(h | h);exact h2 h;exact h3 h)]
     have h4:(x.i == 0)=false:=by simpa using h3
     clear h3;go_enter func177,ntmps177;go_wp2_with fail;go_ret;exact⟨rfl,rfl⟩
theorem NQ (i g:Int)(h:qc w u l):aG 117 #[u,Z ag i,Z ag g] w (ao #[Z ag (FA l i g),Z ag (Jh l i g),Z ag (wq l i g)]) λw'=>aF w w':=by
 have HW:=xQ i g h;obtain⟨A,cap,rfl,eQ,qf,hat⟩:=h.form;cases hx:k_ l i with
 | none =>
  have e1:FA l i g=0:=by unfold FA;rw[hx]
  have e2:Jh l i g=0:=by unfold Jh;rw[hx]
  have e3:wq l i g=4:=by unfold wq;rw[hx]
  have e4:nY l i g=4:=by unfold nY;rw[hx]
  rw[e1,e2,e3];rw[e4] at HW;have HW:=af HW;clear hat h hx e1 e2 e3 e4;go_enter func117,ntmps117;go_wp2_with fail;refine bH HW.out ?_;go_wp2_with fail;go_ret3;exact⟨rfl,aes _ _⟩
 | some x =>
  have e3:wq l i g=if nY l i g=0 then (if x.i=2 then 6 else 0) else nY l i g:=by unfold wq;rw[hx]
  have e1:FA l i g=if wq l i g=0 then x.c else 0:=by unfold FA;rw[hx]
  have e2:Jh l i g=if wq l i g=0 then x.d else 0:=by unfold Jh;rw[hx]
  obtain⟨h0,h1,AE⟩:=lM hx;obtain⟨n,rfl⟩:∃ n:Nat,i=n:=⟨i.toNat,by omega⟩
  rw[aey] at h1 AE;obtain⟨b,rfl,hg,c0,c1,c2,c3⟩:=hat n x AE;have kX:(n:Int)<l.length:=by omega
  by_cases hw:nY l n g=0
  ·rw[if_pos hw] at e3
   rw[hw] at HW;by_cases h2:x.i=2
   ·rw[if_pos h2] at e3
    rw[e3,if_neg (by omega)] at e1 e2;rw[e1,e2,e3];rw[h2] at c0;have HW:=af HW;clear hat h hx e1 e2 e3 hw h2 AE h0 c1;go_enter func117,ntmps117;go_wp2_with fail;refine bH HW.out ?_;go_wp2_with fail;go_ret3;exact⟨rfl,aes _ _⟩
   ·rw[if_neg h2] at e3
    rw[e3,if_pos rfl] at e1 e2;rw[e1,e2,e3];have h4:(x.i == 2)=false:=by simpa using h2
    have HW:=af HW;clear hat h hx e1 e2 e3 hw h2 AE h0 c1;go_enter func117,ntmps117;go_wp2_with fail;refine bH HW.out ?_;go_wp2_with fail;go_quiet (fail);go_wp2_with fail;go_ret3;exact⟨rfl,below_drewN (aes _ _) _⟩
  ·rw[if_neg hw] at e3
   rw[e3,if_neg hw] at e1 e2;rw[e1,e2,e3];obtain⟨E,hE⟩:∃ E,nY l n g=E:=⟨_,rfl⟩
   rw[hE] at HW hw ⊢;have h4:(E == 0)=false:=by simpa using hw
   have HW:=af HW;clear hat h hx e1 e2 e3 hw hE AE h0 c0 c1 c2 c3;go_enter func117,ntmps117;go_wp2_with fail;refine bH HW.out ?_;go_wp2_with fail;go_ret3;exact⟨rfl,aes _ _⟩
theorem χ (w:av)(a b c d:Int):∀ j u,[Value.int ag a,Z ag b,Z ag c,Z ag d][j]?=some u->(w.alloc (.cells #[Z ag a,Z ag b,Z ag c,Z ag d] 161)).cell? ((⟨w.heap.size,0,none⟩:Addr).add j)=some u:=by intro j u h;rw[Addr.add_lit,afM];exact(bA.new w #[Z ag a,Z ag b,Z ag c,Z ag d] 161).cell h
theorem Wu (a b c d:Int):∀ u ∈ [Value.int ag a,Z ag b,Z ag c,Z ag d],u.oneCell'=true:=by intro u h;simp only[aev,ae8,or_false] at h;rcases h with rfl | rfl | rfl | rfl <;> rfl
theorem NR (l:List En)(x:En):flat (l++[x])=flat l++[Z ag x.i,Z ag x.g,Z ag x.c,Z ag x.d]:=by simp[flat,En.cells]
theorem Grow.step {w0 wr w1:av}{o v:az}{L:List En}{x:En}{n:Nat}(hn:n=L.length+1)(ho:wr.ownsRow w0.heap.size 161 4 o L.length (flat L))(hb:aF w0 wr)
  (aX:w1.ownsRow w0.heap.size 161 4 v n (flat L++[Z ag x.i,Z ag x.g,Z ag x.c,Z ag x.d])) (hg:(wr.alloc (.cells #[Z ag x.i,Z ag x.g,Z ag x.c,Z ag x.d] 161)).grownBy w1 o.ownBlock) :
  w1.ownsRow w0.heap.size 161 4 v (L++[x]).length (flat (L++[x]))/\aF w0 w1:=by
 refine⟨by rw[NR];rw[hn] at aX;simpa using aX,?_⟩;have hs:=hb.size;exact(hb.alloc (by omega) (.cells #[Z ag x.i,Z ag x.g,Z ag x.c,Z ag x.d] 161)).grown hg (by simp;omega) (λg hg=>(ho.lt _ hg).1)
theorem FD (l:List En)(j:Nat){x:En}(hx:l[j]?=some x):(l.drop j).findIdx il=if il x=true then 0 else (l.drop (j+1)).findIdx il+1:=by
 have hlt:=(aC.1 hx).1;have e:l.drop j=x::l.drop (j+1):=by rw[afm hlt];rw[aD hlt] at hx;rw[ael hx]
 rw[e,List.findIdx_cons];cases il x <;> rfl
end
def zR (u v:az)(w w':av):Prop:=(v=u\/∀ g,v.ownBlock=some g->w.heap.size<=g)/\aF w w'
theorem zR.refl (u:az)(w:av):zR u u w w:=⟨aeG rfl,aes _ _⟩
section
variable {w w':av}{v u:az}{l:List En}{i:Int}
theorem Ji {n:Nat}{x:En}(h:qc w u l)(hx:l[n]?=some x)(hl:l.length<=100)(yi yg yc yd:Int) :
  ay prog 175 #[u,Z ag n,au #[Z ag yi,Z ag yg,Z ag yc,Z ag yd]] w λe w'=>∃ v,e = aj v/\qc w' v (l.set n ⟨yi,yg,yc,yd⟩)/\zR u v w w':=by
 obtain⟨i0,iE,gU,fZ,fR⟩:=info_parts Tryz.infoEn;obtain⟨A,cap,rfl,eQ,qf,hat⟩:=h.form;obtain⟨g,rfl,hg,_⟩:=hat n x hx;obtain⟨w1,fJ⟩:∃ w1,w.alloc (.cells #[Z ag yi,Z ag yg,Z ag yc,Z ag yd] 161)=w1:=⟨_,rfl⟩
 obtain⟨b,hb⟩:∃ b,w.heap.size=b:=⟨_,rfl⟩
 have aO:aF w w1:=fJ ▸ (aes _ _).alloc (aem _) _;have hK:bA w1 b 161 [Z ag yi,Z ag yg,Z ag yc,Z ag yd]:=by rw[<- fJ,<- hb];exact bA.new w _ _
 have h1:=h.below aO;obtain⟨w2,jI⟩:∃ w2,w1.alloc (.cells #[] 161)=w2:=⟨_,rfl⟩
 obtain⟨B,hB⟩:∃ B,w1.heap.size=B:=⟨_,rfl⟩
 have bC:aF w1 w2:=jI ▸ (aes _ _).alloc (aem _) _;have xn:w2.ownsRow B 161 4 (.slice (some ⟨B,0,none⟩) 0 0) 0 []:=by rw[<- jI,<- hB];exact World.ownsRow_made w1 #[] 0 (aem _) (ae2 _) rfl
 have h2:=h1.below bC;have nQ:∀ j u,(flat l)[j]?=some u->w2.cell? ((⟨g,0,none⟩:Addr).add j)=some u:=by intro j u hj;rw[Addr.add_lit,afM];have hh:w2.ownsRow 0 161 4 (.slice (some ⟨g,0,none⟩) l.length cap) l.length (flat l):=h2;rw[hh.cellAt j (by have:=(aC.1 hj).1;rw[xO] at this;exact this)];exact hj
 have OD:∀ u ∈ flat l,u.oneCell'=true:=by intro u hu;unfold flat at hu;obtain⟨y,_,hy⟩:=List.mem_flatMap.1 hu;unfold En.cells at hy;simp only[aev,ae8,or_false] at hy;rcases hy with rfl | rfl | rfl | rfl <;> rfl
 have HN:=af (aen nQ OD);have HM:=af xn;have hlt:n<l.length:=(aC.1 hx).1;have jQ:(n:Int)<l.length:=by omega
 have HX:=af hx;have HBB:=af (aen aO bC);have HS:=af (show B<=w2.heap.size from by rw[<- hB];exact bC.size);have hBb:b<B:=by rw[<- hB];exact hK.lt
 have HFL:=af (xO l);have NS:=af (λ(w3:av) (hg:w2.grownBy w3 (some B))=>show aF w1 w3 from bC.grown hg bC.size (by intro k hk;simp at hk;omega));have HQ:=af (λ(w3:av) (dj:aF w1 w3)=>hK.below dj hK.lt);have k0:=hK.cell (i:=0) rfl;clear hat h h1 h2 nQ OD xn hx aO bC hK;go_enter func175,ntmps175
 go_wp2_with (at_builtin;refine wpList_append_own _ rfl _ _ 92 rfl B 161 i0 (au #[Z ag 0,Z ag 0,Z ag 0,Z ag 0]) 4 32 underlying92 iE gU fZ fR rfl (by decide) _ _ _ rfl HM.out ⟨g,0,none⟩ l.length cap (flat l) rfl HFL.out HN.out.1 HN.out.2 (by unfold maxLen;omega) (by omega) HS.out ?_;intro v3 w3 kW UF acf;replace kW:w3.ownsRow B 161 4 v3 l.length (flat l):=(by simpa using kW);have ho3:qc w3 v3 l:=qc.of kW;obtain⟨A3,cap3,rfl,_,_,abu⟩:=ho3.form;obtain⟨g3,rfl,hg3,d0,d1,d2,d3⟩:=abu n x HX.out;have ia:=NS.out w3 UF;have q:=HQ.out w3 ia;have q0:=q.cell (i:=0) rfl;have q1:=q.cell (i:=1) rfl;have q2:=q.cell (i:=2) rfl;have q3:=q.cell (i:=3) rfl;have f0:=kW.frozenAt (n * 4);have f1:=kW.frozenAt (n * 4+1);have f2:=kW.frozenAt (n * 4+2);have f3:=kW.frozenAt (n * 4+3);have HO3:=af kW;have yL:=af ia;clear kW UF acf ho3 abu q ia)
 clear k0 q0 q1 q2 q3 d0 d1 d2 d3 f0 f1 f2 f3;go_ret;obtain⟨s1,_⟩:=HO3.out.stored (n * 4) (Z ag yi);obtain⟨s2,_⟩:=s1.stored (n * 4+1) (Z ag yg);obtain⟨s3,_⟩:=s2.stored (n * 4+2) (Z ag yc);obtain⟨s4,_⟩:=s3.stored (n * 4+3) (Z ag yd);rw[Ss HX.out ⟨yi,yg,yc,yd⟩] at s4;have hBg:w.heap.size<=g3:=by have h1:=(HO3.out.lt g3 rfl).1;have h2:=HBB.out.1.size;omega
 refine⟨_,rfl,?_,aeH (λg hg=>(ael hg) ▸ hBg),((((aH HBB.out.1 yL.out).setCell hBg _).setCell hBg _).setCell hBg _).setCell hBg _⟩;have s5:=qc.of (l:=l.set n ⟨yi,yg,yc,yd⟩) (by rw[aeY];exact s4);exact s5
theorem Sz (w:av):ay prog 34 #[] w λe w'=>∃ v,e = aj v/\qc w' v iQ/\(∀ g,v.ownBlock=some g->w.heap.size<=g)/\aF w w':=by
 obtain⟨i0,iE,gU,fZ,fR⟩:=info_parts Tryz.infoEn;go_enter func34,ntmps34;go_wp2_with fail
 go_loopw [1,2] (λo c wr=>∃ (j:Nat) (L:List En),j<=8/\c = Z ag j/\L.length=j/\Aside (L=aeK j ⟨0,1,0,0⟩)/\Aside (wr.ownsRow w.heap.size 161 4 o L.length (flat L))/\Aside (aF w wr)) (λ_ c _=>8 - (aeI c).toNat)
 case atStart=>exact⟨0,[],by omega,rfl,rfl,rfl,World.ownsRow_nil _ _ _ _,aes _ _⟩
 case round =>
  obtain⟨j,L,hj,rfl,hl,hL,hO,hB⟩:=hrel;by_cases hlt:j<8
  ·have jQ:(j:Int)<8:=by omega
   have hsz:=hB.out.size;have HF:=af (xO L)
   go_wp2_with (at_builtin;refine wpList_append_own _ rfl _ _ 92 rfl w.heap.size 161 i0 (au #[Z ag 0,Z ag 0,Z ag 0,Z ag 0]) 4 32 underlying92 iE gU fZ fR rfl (by decide) _ _ _ rfl (hO.out.alloc _) ⟨wr.heap.size,0,none⟩ 1 1 [Z ag 0,Z ag 1,Z ag 0,Z ag 0] rfl rfl (χ wr 0 1 0 0) (Wu 0 1 0 0) (by unfold maxLen;omega) (by omega) (by simp;omega) ?_;intro v1 w1 eH yx _;have hst:=Grow.step (x:=⟨0,1,0,0⟩) rfl hO.out hB.out eH yx;have X3:=af hst.1;have dE:=af hst.2;clear hst eH yx)
   go_roundw
   case rel=>exact⟨j+1,L++[⟨0,1,0,0⟩],by omega,by go_num,by simp[hl],by show _=_;rw[hL.out,afA],by show World.ownsRow _ _ _ _ _ _ _;exact X3.out,dE.out⟩
   case measure=>simp[aeI];omega
  ·have:j=8:=by omega
   subst this;go_wp2_with fail;go_ret;refine⟨_,rfl,?_,λg hg=>(hO.out.lt g hg).1,hB.out⟩;have h:=qc.of hO.out;rw[hL.out] at h;exact h
theorem ψ (i:Int)(h:qc w u l)(hl:l.length<=100):ay prog 114 #[u,Z ag i] w λe w'=>∃ v,e = aj (ao #[v,Z ag (Fz l i)])/\qc w' v (wo l i)/\zR u v w w':=by
 have HH:=af h;obtain⟨A,cap,rfl,eQ,qf,hat⟩:=h.form;rcases xP l i with ⟨h0,e⟩ | ⟨h0,h1,e⟩ | ⟨n,x,rfl,hn,hx,e⟩
 ·have e1:Fz l i=1:=by unfold Fz;rw[e]
  have e2:wo l i=l:=by unfold wo;rw[e]
  rw[e1,e2];clear hat h e e1 e2;go_enter func114,ntmps114;go_wp2_with fail;go_ret2;exact⟨_,rfl,HH.out,zR.refl _ _⟩
 ·have e1:Fz l i=1:=by unfold Fz;rw[e]
  have e2:wo l i=l:=by unfold wo;rw[e]
  rw[e1,e2];clear hat h e e1 e2;go_enter func114,ntmps114;go_wp2_with fail;go_ret2;exact⟨_,rfl,HH.out,zR.refl _ _⟩
 ·have e1:Fz l n=if x.i=1 then 0 else 9:=by unfold Fz;rw[e]
  have e2:wo l n=if x.i=1 then l.set n ⟨2,x.g,0,0⟩ else l:=by unfold wo;rw[e];simp
  obtain⟨b,rfl,hg,c0,c1,c2,c3⟩:=hat n x hx;have kX:(n:Int)<l.length:=by omega
  have L6:¬ ((l.length:Int)<=n):=by omega
  by_cases h1:x.i=1
  ·rw[if_pos h1] at e1 e2
   rw[e1,e2];rw[h1] at c0;have HS:=af (Ji h hx hl 2 x.g 0 0);clear hat h e e1 e2 c2 c3 hx h1 hl;go_enter func114,ntmps114;go_wp2_with fail;refine HS.out.mono ?_;rintro e w1 ⟨v,rfl,hv,hb⟩;obtain⟨A1,cap1,eN,_⟩:=hv.form;rw[aeY] at eN;subst eN;have HV:=af (aen hv hb);clear hv hb HS;go_wp2_with fail;go_ret2;exact⟨_,rfl,HV.out.1,HV.out.2⟩
  ·rw[if_neg h1] at e1 e2
   rw[e1,e2];have h4:(x.i == 1)=false:=by simpa using h1
   clear hat h e e1 e2 c1 c2 c3 hx h1;go_enter func114,ntmps114;go_wp2_with fail;go_ret2;exact⟨_,rfl,HH.out,zR.refl _ _⟩
theorem SC (i g:Int)(h:qc w u l)(hw:Wf l):ay prog 119 #[u,Z ag i,Z ag g] w λe w'=>∃ v,e = aj (ao #[v,Z ag (nY l i g)])/\qc w' v (xM l i g)/\zR u v w w':=by
 have HH:=af h;have HW:=xQ i g h;obtain⟨A,cap,rfl,eQ,qf,hat⟩:=h.form;by_cases he:nY l i g=0
 ·obtain⟨x,hx,x1,x2⟩:=FB he
  have hk:=hw.at_ hx;have Az:=hk.g2;have GF:=hk.g1;obtain⟨h0,h1,AE⟩:=lM hx;obtain⟨n,rfl⟩:∃ n:Nat,i=n:=⟨i.toNat,by omega⟩
  rw[aey] at h1 AE;have e2:xM l n g=l.set n ⟨0,x.g+1,0,0⟩:=by unfold xM;rw[hx];simp[he]
  obtain⟨b,rfl,hg,c0,c1,c2,c3⟩:=hat n x AE;have kX:(n:Int)<l.length:=by omega
  have HS:=af (Ji h AE (by rw[hw.len];omega) 0 (x.g+1) 0 0);rw[he] at HW;rw[he,e2];have HW:=af HW;clear hat h e2 c0 c2 c3 hx AE he hk h0 x1 x2 hw;go_enter func119,ntmps119;go_wp2_with fail;refine bH HW.out ?_;go_wp2_with fail;refine HS.out.mono ?_;rintro e w1 ⟨v,rfl,hv,hb⟩;obtain⟨A1,cap1,eN,_⟩:=hv.form;rw[aeY] at eN;subst eN;have HV:=af (aen hv hb);clear hv hb HS HW;go_wp2_with fail;go_ret2;exact⟨_,rfl,HV.out.1,HV.out.2⟩
 ·have e2:xM l i g=l:=by
   unfold xM;cases hx:k_ l i with
   | none=>rfl
   | some x=>simp[he]
  rw[e2];obtain⟨E,hE⟩:∃ E,nY l i g=E:=⟨_,rfl⟩
  rw[hE] at HW he ⊢;have h4:(E == 0)=false:=by simpa using he
  have HW:=af HW;clear hat h e2 he hE;go_enter func119,ntmps119;go_wp2_with fail;refine bH HW.out ?_;go_wp2_with fail;go_ret2;exact⟨_,rfl,HH.out,zR.refl _ _⟩
theorem FH (c g:Int)(h:qc w u l)(hl:l.length<=100):ay prog 111 #[u,Z ag c,Z ag g] w λe w'=>∃ v,e = aj (ao #[v,Z ag (nl l c g),Z ag (grE l c g)])/\qc w' v (mI l c g)/\zR u v w w':=by
 have HH:=af h;obtain⟨A,cap,rfl,eQ,qf,hat⟩:=h.form;by_cases OQ:Fv c g=false
 ·have e1:grE l c g=1:=by unfold grE;rw[OQ];rfl
  have e2:nl l c g=0:=by unfold nl;rw[e1];rfl
  have e3:mI l c g=l:=by unfold mI;rw[e1,if_neg (by omega)]
  rw[e1,e2,e3];have py:c<0\/¬ c<0/\191<c\/¬ c<0/\¬ 191<c/\g<0\/¬ c<0/\¬ 191<c/\¬ g<0/\4294967295<g:=by unfold Fv at OQ;simp only[Bool.and_eq_false_iff,decide_eq_false_iff_not] at OQ;omega
  clear hat h e1 e2 e3 OQ;rcases py with a | ⟨a,b⟩ | ⟨a,b,c⟩ | ⟨a,b,c,d⟩
  all_goals
   go_enter func111,ntmps111;go_wp2_with fail;go_ret3;exact⟨_,rfl,HH.out,zR.refl _ _⟩
 have Lm:Fv c g=true:=by simpa using OQ
 have hb:¬ c<0/\¬ 191<c/\¬ g<0/\¬ 4294967295<g:=by unfold Fv at Lm;simp only[aez,decide_eq_true_eq] at Lm;omega
 obtain⟨b1,b2,b3,b4⟩:=hb;have hE:grE l c g=if ll l<l.length then 0 else 8:=by unfold grE;rw[if_pos Lm]
 have HE:=af hE;have XJ:=af hat;clear hat h hE OQ Lm;go_enter func111,ntmps111;go_wp2_with fail
 go_loopw [9] (λi wr=>∃ (j:Nat),j<=l.length/\i = Z ag j/\wr=w/\Aside (ll l=(l.drop j).findIdx il+j)) (λi _=>l.length - (aeI i).toNat)
 case atStart=>exact⟨0,by omega,rfl,rfl,by show _=_;rw[List.drop_zero];rfl⟩
 case round =>
  obtain⟨j,hj,rfl,rfl,hF⟩:=hrel;by_cases hlt:j<l.length
  ·obtain⟨x,hx⟩:∃ x,l[j]?=some x:=⟨_,aD hlt⟩
   obtain⟨b,rfl,wG,c0,c1,c2,c3⟩:=XJ.out j x hx;have jQ:(j:Int)<l.length:=by omega
   have HD:=af (FD l j hx);have HX:=af hx;have yJ:il x=false->Aside (ll l=(l.drop (j+1)).findIdx il+(j+1)):=λe=>by
    show _=_;rw[hF.out,HD.out,e,if_neg (by simp)];omega
   clear hx c2 c3 wG;by_cases h0:x.i=0
   ·rw[h0] at c0
    by_cases h1:x.g=4294967295
    ·have qP:=yJ (by unfold il;rw[h0,h1];rfl)
     rw[h1] at c1;clear h0 h1 hF HD yJ;go_wp2_with fail;go_roundw
     case rel=>exact⟨j+1,by omega,by go_num,by first | trivial | rfl,qP⟩
     case measure=>simp[aeI];omega
    ·have h4:(x.g == 4294967295)=false:=by simpa using h1
     have hfr:il x=true:=by unfold il;rw[h0,h4];rfl
     have B_:ll l=j:=by rw[hF.out,HD.out,if_pos hfr];omega
     have e1:grE l c g=0:=by rw[HE.out,B_,if_pos hlt]
     obtain⟨_,_,z,hz,_,_,_,e4,e5⟩:=xN e1;have hzx:z=x:=by have:=(lM hz).2.2;rw[B_,aey,HX.out] at this;exact(ael this).symm
     rw[B_] at e4 e5;rw[hzx] at e5;have BP:=af (aen e1 (aen e4 e5));have HS:=af (Ji HH.out HX.out hl 1 x.g c g);have h5:(x.g != 4294967295)=true:=by simp[bne,h4]
     clear h0 h1 hF HD yJ hfr B_ e1 e4 e5 hz hzx;go_wp2_with fail;refine HS.out.mono ?_;rintro e w1 ⟨v,rfl,hv,hb⟩;obtain⟨A1,cap1,eN,_⟩:=hv.form;rw[aeY] at eN;subst eN;have HV:=af (aen hv hb);clear hv hb HS;go_wp2_with fail;go_ret3;refine⟨_,by rw[BP.out.1,BP.out.2.1];rfl,?_,HV.out.2⟩;rw[BP.out.2.2];exact HV.out.1
   ·have h4:(x.i == 0)=false:=by simpa using h0
    have qP:=yJ (by unfold il;rw[h4];rfl);clear h0 hF HD yJ c1;go_wp2_with fail;go_roundw
    case rel=>exact⟨j+1,by omega,by go_num,by first | trivial | rfl,qP⟩
    case measure=>simp[aeI];omega
  ·have:j=l.length:=by omega
   subst this;have XS:=hF.out;rw[List.drop_length] at XS;have e1:grE l c g=8:=by rw[HE.out,if_neg (by rw[XS];simp)]
   have e2:nl l c g=0:=by unfold nl;rw[e1,if_neg (by omega)]
   have e3:mI l c g=l:=by unfold mI;rw[e1,if_neg (by omega)]
   have BP:=af (aen e1 (aen e2 e3));have jQ:¬ ((l.length:Int)<l.length):=by omega
   clear e1 e2 e3 hF XS XJ;go_wp2_with fail;go_ret3;refine⟨_,by rw[BP.out.1,BP.out.2.1];rfl,?_,zR.refl _ _⟩;rw[BP.out.2.2];exact HH.out
end
end Px
end
section
namespace Wl
open Hp Tn Px
structure Wt where
 x:Sh
 s:Hs
 c:Cs
structure Lt where
 rc:Int
 fr:Int
 en:Int
 ge:Int
def yU (y z:Lt):Bool:=y.rc == z.rc && y.fr == z.fr && y.en == z.en && y.ge == z.ge
theorem Cb {y z:Lt}:yU y z=true ↔ y=z:=by
 unfold yU;simp only[aez,beq_iff_eq];constructor
 ·rintro⟨⟨⟨h1,h2⟩,h3⟩,h4⟩
  cases y;cases z;simp_all
 ·rintro rfl
  exact⟨⟨⟨rfl,rfl⟩,rfl⟩,rfl⟩
structure Ws where
 t:List Wt
 x:Int->Int->List En
 l:List Lt
structure Op where
 d:Int
 t:Int
 w:Int
 o:Int
 n:Int
 m:Int
def kC (W:Ws)(i:Int):Bool:=decide (1<=i) && decide (i<=W.t.length)
def tn (W:Ws)(i:Int):Option Wt:=if i<1 then none else W.t[(i - 1).toNat]?
def dh (W:Ws)(i:Int)(y:Wt):Ws:={ W with t:=W.t.set (i - 1).toNat y }
def Dk (f:Int->Int->List En)(i k:Int)(l:List En):Int->Int->List En:=λa b=>if a=i/\b=k then l else f a b
def iq (W:Ws)(i k:Int)(l:List En):Ws:={ W with x:=Dk W.x i k l }
def nZ (d:Int):Int:=if d=0 then 1 else if d=1 then 2 else if d=2 then 3 else if d=3 then 4 else if d=4 then 5 else if d=10 then 6 else if d=11 then 7 else if d=12 then 8 else 0
def gG (o:Op):Fh:=⟨nZ o.d,o.w,o.o,o.n,o.m⟩
def UW (N i g:Int):Int:=1152921504606846976 * (N - 1)+576460752303423488+4294967296 * i+g
def g_ (W:Ws)(t n:Int):Bool:=kC W n && !(n == t)
def iz (w:Int):Int:=bP w / 8+1
def jY (w:Int):Int:=bP w % 8
def wv (W:Ws)(t w:Int):Bool:=Dj w == 2 && Ff w == t && g_ W t (iz w) && !(W.l.any λy=>yU y ⟨t,iz w,jY w,iM w⟩)
def sR (t n:Int)(y:Lt):Bool:=y.rc == t && y.fr == n
section
variable (W:Ws)(o:Op)(τ:Wt)
def GZ:An :=
 if g_ W o.t o.n=true then (if fh τ.x o.t τ.s o.w=0 then (if grE (W.x o.t o.n) (bP o.w) (bL τ.s.cs (bP o.w))=0 then datum (nl (W.x o.t o.n) (bP o.w) (bL τ.s.cs (bP o.w))) else wrong (grE (W.x o.t o.n) (bP o.w) (bL τ.s.cs (bP o.w)))) else wrong (fh τ.x o.t τ.s o.w)) else wrong 3
def Cc:Ws :=
 if g_ W o.t o.n=true/\fh τ.x o.t τ.s o.w=0/\grE (W.x o.t o.n) (bP o.w) (bL τ.s.cs (bP o.w))=0 then
  { (iq W o.t o.n (mI (W.x o.t o.n) (bP o.w) (bL τ.s.cs (bP o.w)))) with l:=W.l++[⟨o.n,o.t,nl (W.x o.t o.n) (bP o.w) (bL τ.s.cs (bP o.w)),vG (W.x o.t o.n) (nl (W.x o.t o.n) (bP o.w) (bL τ.s.cs (bP o.w)))⟩] } else W
def SD:Bool:=g_ W o.t o.n && decide (0<=o.m) && decide (o.m<=7)
def Ln:An:=if SD W o=true then wrong (Fz (W.x o.t o.n) o.m) else wrong 3
def FI:Ws:=if SD W o=true then iq W o.t o.n (wo (W.x o.t o.n) o.m) else W
def G0:An :=
 if g_ W o.t o.n=true then (match W.l.find? (sR o.t o.n) with | some y=>⟨0,2,UW o.t (8 * (o.n - 1)+y.en) y.ge⟩ | none=>wrong 9) else wrong 3
def Cd:Ws:=if g_ W o.t o.n=true then { W with l:=W.l.eraseP (sR o.t o.n) } else W
def Lp:An :=
 if wv W o.t o.w=true then (if wq (W.x (iz o.w) o.t) (jY o.w) (iM o.w)=0 then (match tn W (iz o.w) with
   | some z=>lookA z.x z.s (FA (W.x (iz o.w) o.t) (jY o.w) (iM o.w)) (Jh (W.x (iz o.w) o.t) (jY o.w) (iM o.w)) o.n | none=>wrong 3)
  else wrong (wq (W.x (iz o.w) o.t) (jY o.w) (iM o.w))) else wrong 4
def NT:An:=if wv W o.t o.w=true then wrong (nY (W.x (iz o.w) o.t) (jY o.w) (iM o.w)) else wrong 4
def G1:Ws:=if wv W o.t o.w=true then iq W (iz o.w) o.t (xM (W.x (iz o.w) o.t) (jY o.w) (iM o.w)) else W
end
def mJ (W:Ws)(o:Op):An :=
 match tn W o.t with
 | none=>wrong 3
 | some τ=>if nZ o.d≠0 then Wn τ.x o.t τ.s τ.c (gG o) else if o.d=5 then GZ W o τ else if o.d=6 then Ln W o else if o.d=7 then G0 W o else if o.d=8 then Lp W o else if o.d=9 then NT W o else wrong 3
def jV (W:Ws)(o:Op):Ws :=
 match tn W o.t with
 | none=>W
 | some τ=>if nZ o.d≠0 then dh W o.t ⟨τ.x,Fj τ.x o.t τ.s τ.c (gG o),Lj τ.x τ.s τ.c (gG o)⟩ else if o.d=5 then Cc W o τ else if o.d=6 then FI W o else if o.d=7 then Cd W o else if o.d=9 then G1 W o else W
def h_ (l:List Sh):Ws:=⟨l.map λx=>⟨x,Hs.init x,Cs.init⟩,λ_ _=>iQ,[]⟩
section
variable {a b i k:Int}{W V:Ws}{o:Op}{τ y:Wt}{e:List En}
theorem fW (h:tn W i=some τ):1<=i/\(i - 1).toNat<W.t.length/\kC W i=true:=by
 unfold tn at h;split at h
 ·cases h
 ·have:=(aC.1 h).1
  refine⟨by omega,this,?_⟩;unfold kC;simp only[aez,decide_eq_true_eq];omega
theorem wy (h:tn W i=none):kC W i=false:=by
 unfold tn at h;unfold kC;split at h
 ·simp;omega
 ·have:=List.getElem?_eq_none_iff.1 h
  simp;omega
theorem Ce {f:Int->Int->List En}{i k u v:Int}:Dk f i k e u v=if u=i/\v=k then e else f u v:=rfl
theorem xR {p q:Lt->Bool}(h:∀ y,p y=true->q y=false):∀ l:List Lt,(l.eraseP p).filter q=l.filter q
 | []=>rfl
 | y::l=>by
  rw[List.eraseP_cons];cases hp:p y
  ·simp only[cond_false,afu,xR h l]
  ·simp only[cond_true,afu,h y hp]
   simp
theorem zS {p q:Lt->Bool}(h:∀ y,p y=true->q y=true):∀ l:List Lt,(l.eraseP p).filter q=(l.filter q).eraseP p
 | []=>rfl
 | y::l=>by
  rw[List.eraseP_cons];cases hp:p y
  ·simp only[cond_false,afu,zS h l]
   split
   ·rw[List.eraseP_cons,hp];rfl
   ·rfl
  ·simp only[cond_true,afu,h y hp,if_true]
   rw[List.eraseP_cons,hp];rfl
end
structure Wd where
 w:Int
 t:Int
 b:Bool
section
variable {W V:Ws}{wd:List Wd}{o:Op}{τ y:Wt}{i k t w:Int}{a:An}{e:List En}
theorem oR (h:g_ W t k=true):kC W k=true/\t≠k:=by unfold g_ at h;simp only[aez,Bool.not_eq_true',beq_eq_false_iff_ne] at h;exact⟨h.1,λe=>h.2 e.symm⟩
theorem oS (h:kC W k=true):1<=k/\k<=W.t.length:=by unfold kC at h;simpa using h
theorem FK (h:wv W t w=true):Dj w=2/\Ff w=t/\g_ W t (iz w)=true/\∀ y ∈ W.l,y≠⟨t,iz w,jY w,iM w⟩:=by unfold wv at h;simp only[aez,beq_iff_eq,Bool.not_eq_true'] at h;refine⟨h.1.1.1,h.1.1.2,h.1.2,λy hy e=>?_⟩;have:=List.any_eq_false.1 h.2 y hy;exact this (Cb.2 e)
theorem at_len (h:Wf e){j:Int}{x:En}(hx:k_ e j=some x):0<=j/\j<=7:=by obtain⟨h0,h1,_⟩:=lM hx;have:=h.len;omega
end

section
variable {W V:Ws}{wd:List Wd}{o:Op}{τ y:Wt}{i k t w:Int}{a:An}{e:List En}
theorem Wv:(jV W o).t.length=W.t.length:=by
 unfold jV;split
 ·rfl
 ·split
  ·unfold dh;simp
  ·split
   ·unfold Cc
    split <;> rfl
   ·split
    ·unfold FI
     split <;> rfl
    ·split
     ·unfold Cd
      split <;> rfl
     ·split
      ·unfold G1
       split <;> rfl
      ·rfl
theorem Ww (h:nZ o.d=0):(jV W o).t=W.t:=by
 unfold jV;split
 ·rfl
 ·rw[if_neg (by omega)]
  split
  ·unfold Cc
   split <;> rfl
  ·split
   ·unfold FI
    split <;> rfl
   ·split
    ·unfold Cd
     split <;> rfl
    ·split
     ·unfold G1
      split <;> rfl
     ·rfl
theorem SE (d:Int):0<=nZ d/\nZ d<=8:=by
 unfold nZ
 repeat' split
 all_goals omega
end
structure qd (W:Ws):Prop where
 wf:∀ i k,Wf (W.x i k)
 xU:∀ y ∈ W.l,kC W y.rc=true/\g_ W y.rc y.fr=true/\∃ x,k_ (W.x y.fr y.rc) y.en=some x/\y.ge=x.g/\x.i≠0
 nd:W.l.Nodup
def qQ (W:Ws)(i k:Int):List Int:=(W.l.filter (sR k i)).map Lt.en
section
variable {W V:Ws}{o:Op}{τ y:Wt}{i k t w:Int}{e:List En}
theorem r_ {z:Lt}:sR t k z=true ↔ z.rc=t/\z.fr=k:=by unfold sR;simp
theorem qd.dh (h:qd W)(i:Int)(y:Wt):qd (dh W i y):=by
 have hT:∀ k,kC (Wl.dh W i y) k=kC W k:=λk=>by unfold kC Wl.dh;simp
 have hO:∀ t k,g_ (Wl.dh W i y) t k=g_ W t k:=λt k=>by unfold g_;rw[hT]
 exact⟨h.wf,λz hz=>by rw[hT,hO];exact h.xU z hz,h.nd⟩
theorem qd.tab (h:qd W)(hw:Wf e)(h1:∀ z ∈ W.l,z.fr=i->z.rc=k->∀ x,k_ (W.x i k) z.en=some x->z.ge=x.g->x.i≠0->∃ x',k_ e z.en=some x'/\x'.g=x.g/\x'.i≠0):qd (iq W i k e):=by
 refine⟨λu v=>?_,λz hz=>?_,h.nd⟩
 ·show Wf (Dk W.x i k e u v)
  rw[Ce];split
  ·exact hw
  ·exact h.wf u v
 ·obtain⟨l1,l2,x,hx,hg,hi⟩:=h.xU z hz
  refine⟨l1,l2,?_⟩;show ∃ x',k_ (Dk W.x i k e z.fr z.rc) z.en=some x'/\_;rw[Ce];split
  ·rename_i hh
   rw[hh.1,hh.2] at hx;obtain⟨x',q1,q2,q3⟩:=h1 z hz hh.1 hh.2 x hx hg hi;exact⟨x',q1,by rw[q2];exact hg,q3⟩
  ·exact⟨x,hx,hg,hi⟩
theorem qd.rv (h:qd W)(i k m:Int):qd (iq W i k (wo (W.x i k) m)):=by
 refine h.tab ((h.wf i k).rv m) (λz _ _ _ x hx _ hi=>?_);unfold wo;cases hm:k_ (W.x i k) m with
 | none=>exact⟨x,hx,rfl,hi⟩
 | some q =>
  simp only;split
  ·rw[wu hm]
   split
   ·rename_i e1
    rw[e1,hm] at hx;obtain rfl:=ael hx;exact⟨_,rfl,rfl,by show (2:Int)≠0;decide⟩
   ·exact⟨x,hx,rfl,hi⟩
  ·exact⟨x,hx,rfl,hi⟩
theorem qd.cl (h:qd W)(hf:wv W t w=true):qd (iq W (iz w) t (xM (W.x (iz w) t) (jY w) (iM w))):=by
 obtain⟨f1,f2,f3,f4⟩:=FK hf;refine h.tab ((h.wf _ _).cl _ _) (λz hz z1 z2 x hx hg hi=>?_);unfold xM;cases hm:k_ (W.x (iz w) t) (jY w) with
 | none=>exact⟨x,hx,rfl,hi⟩
 | some q =>
  simp only;split
  ·rename_i hw
   obtain⟨q',Y1,g1,g2⟩:=FB hw;rw[hm] at Y1;obtain rfl:=ael Y1;rw[wu hm];split
   ·rename_i e1
    rw[e1,hm] at hx;obtain rfl:=ael hx;refine absurd ?_ (f4 z hz);cases z;simp_all
   ·exact⟨x,hx,rfl,hi⟩
  ·exact⟨x,hx,rfl,hi⟩
theorem qd.gr (h:qd W)(hT:kC W k=true)(hO:g_ W k i=true){c g:Int}(he:grE (W.x i k) c g=0) :
  qd { (iq W i k (mI (W.x i k) c g)) with l:=W.l++[⟨k,i,nl (W.x i k) c g,vG (W.x i k) (nl (W.x i k) c g)⟩] }:=by
 obtain⟨_,_,z,hz,z0,z1,hg,hv,hS⟩:=xN he;have hs:=λj=>wu (y:=⟨1,z.g,c,g⟩) hz j
 rw[aey] at hs;have h1:qd (iq W i k (mI (W.x i k) c g)):=by
  refine h.tab ((h.wf i k).gr c g) (λy hy y1 y2 x hx hg hi=>?_);rw[hS,hs];split
  ·rename_i e1
   rw[e1,hz] at hx;obtain rfl:=ael hx;exact absurd z0 hi
  ·exact⟨x,hx,rfl,hi⟩
 have hnew:∀ y ∈ W.l,y≠⟨k,i,nl (W.x i k) c g,vG (W.x i k) (nl (W.x i k) c g)⟩:=λy hy e1=>by
  obtain⟨_,_,x,hx,_,hi⟩:=h.xU y hy;rw[e1,hv] at hx;rw[hz] at hx;obtain rfl:=ael hx;exact hi z0
 refine⟨h1.wf,λy hy=>?_,?_⟩
 ·rcases List.mem_append.1 hy with hy | hy
  ·exact h1.xU y hy
  ·obtain rfl:=afh.1 hy
   refine⟨hT,hO,?_⟩;show ∃ x',k_ (Dk W.x i k (mI (W.x i k) c g) i k) (nl (W.x i k) c g)=some x'/\vG (W.x i k) (nl (W.x i k) c g)=x'.g/\_;rw[Ce,if_pos ⟨rfl,rfl⟩,hS,hv,hs,if_pos rfl,hg];exact⟨_,rfl,rfl,by show (1:Int)≠0;decide⟩
 ·show (W.l++[_]).Nodup
  rw[List.nodup_append];refine⟨h.nd,by simp,λy hy z' ku=>?_⟩;obtain rfl:=afh.1 ku;exact hnew y hy
theorem qd.ac (h:qd W)(p:Lt->Bool):qd { W with l:=W.l.eraseP p } :=⟨h.wf,λz hz=>h.xU z (List.mem_of_mem_eraseP hz),h.nd.sublist List.eraseP_sublist⟩
theorem SG (h:qd W)(f t en g:Int):(W.l.any λy=>yU y ⟨t,f,en,g⟩)=(vG (W.x f t) en == g && (qQ W f t).contains en):=by
 rw[Bool.eq_iff_iff,List.any_eq_true,aez,beq_iff_eq,List.contains_iff_mem];constructor
 ·rintro⟨y,hy,e⟩
  obtain rfl:y=_:=Cb.1 e;obtain⟨_,_,x,hx,hg,_⟩:=h.xU _ hy;refine⟨?_,ae6.2 ⟨_,aew.2 ⟨hy,r_.2 ⟨rfl,rfl⟩⟩,rfl⟩⟩;unfold vG;rw[hx];exact hg.symm
 ·rintro⟨h1,h2⟩
  obtain⟨y,hy,rfl⟩:=ae6.1 h2;obtain⟨pW,Uu⟩:=aew.1 hy;obtain⟨rfl,rfl⟩:=r_.1 Uu;obtain⟨_,_,x,hx,hg,_⟩:=h.xU _ pW;refine⟨y,pW,Cb.2 ?_⟩;unfold vG at h1;rw[hx] at h1;simp only at h1;rw[<- h1,<- hg]
theorem Α (h:qd W){j:Int}(hj:j ∈ qQ W i k):0<=j/\j<=7:=by obtain⟨y,hy,rfl⟩:=ae6.1 hj;obtain⟨pW,Uu⟩:=aew.1 hy;obtain⟨_,_,x,hx,_,_⟩:=h.xU _ pW;exact at_len (h.wf _ _) hx
theorem SH (W:Ws)(i k:Int):(W.l.find? (sR k i)).map Lt.en=(qQ W i k)[0]?:=by unfold qQ;rw[<- List.head?_filter];cases W.l.filter (sR k i) <;> rfl
theorem FM (h:qd W){z:Lt}(hz:W.l.find? (sR k i)=some z):vG (W.x i k) z.en=z.ge/\z.rc=k/\z.fr=i/\(0<=z.en/\z.en<=7)/\1<=z.ge/\z.ge<=4294967295:=by obtain⟨rfl,rfl⟩:=r_.1 (List.find?_some hz);obtain⟨_,_,x,hx,hg,_⟩:=h.xU _ (List.mem_of_find?_eq_some hz);have hk:=(h.wf _ _).at_ hx;have:=hk.g1;have:=hk.g2;refine⟨?_,rfl,rfl,at_len (h.wf _ _) hx,by omega,by omega⟩;unfold vG;rw[hx];exact hg.symm
theorem FN (z:Lt)(u v:Int):qQ { W with l:=W.l++[z] } u v=if z.rc=v/\z.fr=u then qQ W u v++[z.en] else qQ W u v:=by
 unfold qQ;rw[List.filter_append];split
 ·rename_i hh
  have:sR v u z=true:=r_.2 hh;simp[this]
 ·rename_i hh
  have:sR v u z=false:=by
   cases hb:sR v u z
   ·rfl
   ·exact absurd (r_.1 hb) hh
  simp[this]
theorem SI {α:Type}{p:α->Bool}:∀ {l:List α},(∀ x ∈ l,p x=true)->l.eraseP p=l.tail
 | [],_=>rfl
 | x::l,h=>by rw[List.eraseP_cons_of_pos (h x (aer ..))];rfl
theorem Lq (u v:Int):qQ { W with l:=W.l.eraseP (sR t k) } u v=if t=v/\k=u then (qQ W u v).tail else qQ W u v:=by
 unfold qQ;show ((W.l.eraseP (sR t k)).filter (sR v u)).map Lt.en=_;split
 ·rename_i hh
  obtain⟨rfl,rfl⟩:=hh;rw[zS (λ_ h=>h),SI (λx hx=>(aew.1 hx).2),List.map_tail]
 ·rename_i hh
  rw[xR (λy hy=>?_)];cases hb:sR v u y
  ·rfl
  ·obtain⟨rfl,rfl⟩:=r_.1 hy
   exact absurd (r_.1 hb) hh
theorem SJ (h:W.l.find? (sR k i)=none):qQ W i k=[]:=by
 unfold qQ;have:W.l.filter (sR k i)=[]:=by rw[List.filter_eq_nil_iff];intro a ha;exact List.find?_eq_none.1 h a ha
 rw[this];rfl
theorem Jj:∀ (n:Nat) {l:List Int},l.Nodup->(∀ x ∈ l,0<=x/\x<n)->l.length<=n
 | 0,l,_,h=>by
  cases l with
  | nil=>exact aem _
  | cons x l=>have:=h x (aer ..);omega
 | n+1,l,hn,h=>by
  by_cases hm:(n:Int) ∈ l
  ·have h1:=Jj n (hn.erase (n:Int)) (λx hx=>by
    obtain⟨e1,e2⟩:=(hn.mem_erase_iff).1 hx;have:=h x e2;omega)
   rw[List.length_erase_of_mem hm] at h1;omega
  ·have h1:=Jj n hn (λx hx=>by
    have:=h x hx;have:x≠n:=λe=>hm (e ▸ hx)
    omega)
   omega
theorem Lr (h:qd W)(i k:Int):(qQ W i k).length<=8:=by
 have hn:(qQ W i k).Nodup:=by unfold qQ;refine List.pairwise_map.2 (List.Pairwise.imp_of_mem (R:=λx y=>x≠y) (fun {x y} hx hy hne e=>hne ?_) (h.nd.sublist List.filter_sublist));obtain⟨x1,x2⟩:=aew.1 hx;obtain⟨y1,y2⟩:=aew.1 hy;obtain⟨a1,a2⟩:=r_.1 x2;obtain⟨b1,b2⟩:=r_.1 y2;obtain⟨_,_,p,hp,hpg,_⟩:=h.xU _ x1;obtain⟨_,_,q,hq,hqg,_⟩:=h.xU _ y1;rw[a1,a2,e] at hp;rw[b1,b2,hp] at hq;obtain rfl:=ael hq;cases x;cases y;simp_all
 exact Jj 8 hn (λx hx=>by have:=Α h hx;omega)
end
end Wl
end
section
namespace Tn
open Hp Go.RowKit

end Tn
end
section
namespace Wl
open Hp Tn Px
def Op.ok (o:Op):Prop:=aI o.d/\aI o.t/\bj o.w/\bj o.o/\aI o.n/\aI o.m
section
variable {W V W0:Ws}{ops xs:List Op}{a b:Int}{o:Op}{τ:Wt}{n k:Nat}
theorem Cf (h:tn W a=some τ):τ ∈ W.t:=by
 unfold tn at h;split at h
 ·cases h
 ·exact aE h
def Wx (n:Nat)(W:Ws):Prop:=∀ τ ∈ W.t,τ.s.ch<=65536 * n/\τ.s.all.length<=n
theorem Wx.ok (h:Wx n W)(hn:n<=700):∀ τ ∈ W.t,τ.s.ch<=4611686018427300000/\τ.s.all.length<=800:=fun τ yG=>by
 have:=h τ yG;omega
theorem Β (ho:o.ok):(gG o).ok:=⟨⟨(SE o.d).1,by have:=(SE o.d).2;show nZ o.d<=255;omega⟩,ho.2.2.1,ho.2.2.2.1,ho.2.2.2.2.1,ho.2.2.2.2.2⟩
theorem NU (W:Ws)(o:Op):(jV W o).t=W.t\/∃ σ,tn W o.t=some σ/\jV W o=dh W o.t ⟨σ.x,Fj σ.x o.t σ.s σ.c (gG o),Lj σ.x σ.s σ.c (gG o)⟩:=by
 by_cases hk:nZ o.d=0
 ·exact aeG (Ww hk)
 ·cases hσ:tn W o.t with
  | none =>
   left;unfold jV;rw[hσ]
  | some σ =>
   right;refine⟨σ,rfl,?_⟩;unfold jV;rw[hσ];simp only;rw[if_pos hk]
theorem SK {i:Int}{y:Wt}(h:τ ∈ (dh W i y).t):τ=y\/τ ∈ W.t:=by
 unfold dh at h;rcases afH h with h | h
 ·exact aeH h
 ·exact aeG h
theorem Wx.do_ (h:Wx n W)(hn:n<=700)(ho:o.ok)(dO:∀ τ,tn W o.t=some τ->∃ pc,CR τ.x τ.c pc τ.s):Wx (n+1) (jV W o):=by
 rcases NU W o with e | ⟨σ,hσ,e⟩
 ·intro τ yG
  rw[e] at yG;have:=h τ yG;omega
 ·intro τ yG
  rw[e] at yG;rcases SK yG with rfl | yG
  ·obtain⟨pc,hc⟩:=dO σ hσ
   have h1:=h σ (Cf hσ);have h2:=NN (N:=o.t) hc (by omega) (by omega) (qO hc.ok) (gG o) (Β ho);simp only;omega
  ·have:=h τ yG
   omega
theorem Wx.begin (l:List Sh)(hl:∀ x ∈ l,x.may=true):Wx 0 (h_ l):=fun τ yG=>by
 obtain⟨x,hx,rfl⟩:=ae6.1 yG;simp only;rw[xK (hl x hx)];exact⟨by show (0:Int)<=_;omega,aem _⟩
end
end Wl
end
section
namespace Px
open Go.RowKit
def En.tc (x:En):List az:=[Z ag x.g,Z ag x.i,Z ag x.c,Z ag x.d]
theorem En.kU (x:En):x.tc.length=4:=rfl
def flt (l:List En):List az:=l.flatMap En.tc
theorem Wy (l:List En):(flt l).length=l.length * 4:=flat_length En.kU l
structure PT (w:av)(b:Nat)(l:List En):Prop where
 blk:bA w b 209 (flt l)
 len:l.length=8
section
variable {w w':av}{b:Nat}{l:List En}{i:Int}
theorem PT.only {S:List Nat}(h:PT w b l)(ho:Only S w w')(hb:b ∉ S):PT w' b l:=⟨h.blk.only ho hb,h.len⟩
theorem PT.below (h:PT w b l)(hb:aF w w'):PT w' b l:=⟨h.blk.below hb h.blk.lt,h.len⟩
theorem PT.at_ (h:PT w b l){n:Nat}{x:En}(hx:l[n]?=some x) :
  w.cell? ⟨b,n * 4,none⟩=some (Z ag x.g)/\w.cell? ⟨b,n * 4+1,none⟩=some (Z ag x.i)/\w.cell? ⟨b,n * 4+2,none⟩=some (Z ag x.c)/\w.cell? ⟨b,n * 4+3,none⟩=some (Z ag x.d) :=
 ⟨h.blk.cell (by have e:=fp En.kU l n 0 x (Z ag x.g) hx rfl;rw[Nat.add_zero] at e;exact e),h.blk.cell (fp En.kU l n 1 x _ hx rfl),h.blk.cell (fp En.kU l n 2 x _ hx rfl),h.blk.cell (fp En.kU l n 3 x _ hx rfl)⟩
def Ls (n a b:Int):Bool:=decide (a<=n) && decide (n<=b)
theorem bB (n a b:Int)(w:av):aT 215 #[Z ag n,Z ag a,Z ag b] w (.bool (Ls n a b)):=by
 by_cases h:a<=n
 ·go_enter func215,ntmps215
  go_wp2
  go_ret;exact⟨aN (by simp[Ls,h]),rfl⟩
 ·have h':n<a:=by omega
  go_enter func215,ntmps215
  go_wp2
  go_ret;exact⟨aN (by simp[Ls];omega),rfl⟩
theorem d_ (b:Nat)(i:Int)(w:av):aT 217 #[ai (some ⟨b,0,none⟩),Z ag i] w (.bool (Ls i 0 7)):=by
 go_enter func217,ntmps217
 go_wp2_with (go_at_call 215;refine bH (bB _ _ _ _) ?_)
 go_ret;exact⟨rfl,rfl⟩
theorem tW (hl:l.length=8)(i:Int):Ls i 0 7=false/\k_ l i=none\/∃ (n:Nat) (x:En),i=n/\n<8/\l[n]?=some x/\k_ l i=some x/\Ls i 0 7=true:=by
 rcases xP l i with ⟨h0,e⟩ | ⟨h0,h1,e⟩ | ⟨n,x,rfl,hn,hx,e⟩
 ·exact aeG ⟨by unfold Ls;simp;omega,e⟩
 ·exact aeG ⟨by unfold Ls;simp;omega,e⟩
 ·exact aeH ⟨n,x,rfl,by omega,hx,e,by unfold Ls;simp;omega⟩
theorem j8 (h:PT w b l)(i:Int):aT 157 #[ai (some ⟨b,0,none⟩),Z ag i] w (Z ag (vG l i)):=by
 have HG:∀ g,(match k_ l i with | some x=>x.g | none=>0)=g->vG l i=g:=λg e=>e
 have HH:=af (d_ b i w);rcases tW h.len i with ⟨hB,e⟩ | ⟨n,x,rfl,hn,hx,e,hB⟩
 ·rw[HG 0 (by rw[e])]
  rw[hB] at HH;clear h e HG hB;go_enter func157,ntmps157;go_wp2_with fail;refine bH HH.out ?_;go_wp2_with fail;go_ret;exact⟨rfl,rfl⟩
 ·rw[HG x.g (by rw[e])]
  rw[hB] at HH;obtain⟨c0,_,_,_⟩:=h.at_ hx;have kX:(n:Int)<8:=by omega
  clear h e HG hB hx;go_enter func157,ntmps157;go_wp2_with fail;refine bH HH.out ?_;go_wp2_with fail;go_ret;exact⟨rfl,rfl⟩
theorem zT (h:PT w b l)(i g:Int):aT 220 #[ai (some ⟨b,0,none⟩),Z ag i,Z ag g] w (Z ag (nY l i g)):=by
 have HH:=af (d_ b i w);obtain⟨E,hE⟩:∃ E,nY l i g=E:=⟨_,rfl⟩
 have sU:=hE;unfold nY at sU;rcases tW h.len i with ⟨hB,e⟩ | ⟨n,x,rfl,hn,hx,e,hB⟩
 ·rw[e] at sU
  have sU:4=E:=sU;rw[hE,<- sU];rw[hB] at HH;clear h e hB hE sU;go_enter func220,ntmps220
  go_wp2_with (go_at_call 217;refine bH HH.out ?_)
  go_ret;exact⟨rfl,rfl⟩
 ·rw[e] at sU
  have sU:(if x.g<g then 4 else if g<x.g\/x.i=0 then 5 else 0)=E:=sU;rw[hB] at HH;obtain⟨c0,c1,_,_⟩:=h.at_ hx;have kX:(n:Int)<8:=by omega
  rw[hE,<- sU];clear h e hx hE sU hB;by_cases h1:x.g<g
  ·rw[if_pos h1]
   go_enter func220,ntmps220
   go_wp2_with (go_at_call 217;refine bH HH.out ?_)
   go_ret;exact⟨rfl,rfl⟩
  ·rw[if_neg h1]
   by_cases h2:g<x.g
   ·rw[if_pos (aeG h2)]
    go_enter func220,ntmps220
    go_wp2_with (go_at_call 217;refine bH HH.out ?_)
    go_ret;exact⟨rfl,rfl⟩
   ·by_cases h3:x.i=0
    ·rw[if_pos (aeH h3)]
     rw[h3] at c1;clear h3;go_enter func220,ntmps220
     go_wp2_with (go_at_call 217;refine bH HH.out ?_)
     go_ret;exact⟨rfl,rfl⟩
    ·rw[if_neg (by rintro(h | h);exact h2 h;exact h3 h)]
     have h4:(x.i == 0)=false:=by simpa using h3
     clear h3;go_enter func220,ntmps220
     go_wp2_with (go_at_call 217;refine bH HH.out ?_)
     go_ret;exact⟨rfl,rfl⟩
end
theorem Wz {l:List En}{n:Nat}{x:En}(hx:l[n]?=some x)(y:En):((((flt l).set (n * 4) (Z ag y.g)).set (n * 4+1) (Z ag y.i)).set (n * 4+2) (Z ag y.c)).set (n * 4+3) (Z ag y.d)=flt (l.set n y):=by have hn:=(aC.1 hx).1;have e1:(flt l).set (n * 4+0) (Z ag y.g)=flt (l.set n ⟨x.i,y.g,x.c,x.d⟩):=fA En.kU l n 0 x ⟨x.i,y.g,x.c,x.d⟩ _ hx rfl (by omega);have e2:(flt (l.set n ⟨x.i,y.g,x.c,x.d⟩)).set (n * 4+1) (Z ag y.i)=flt ((l.set n ⟨x.i,y.g,x.c,x.d⟩).set n ⟨y.i,y.g,x.c,x.d⟩):=fA En.kU _ n 1 ⟨x.i,y.g,x.c,x.d⟩ ⟨y.i,y.g,x.c,x.d⟩ _ (ae4 hn) rfl (by omega);have e3:(flt (l.set n ⟨y.i,y.g,x.c,x.d⟩)).set (n * 4+2) (Z ag y.c)=flt ((l.set n ⟨y.i,y.g,x.c,x.d⟩).set n ⟨y.i,y.g,y.c,x.d⟩):=fA En.kU _ n 2 ⟨y.i,y.g,x.c,x.d⟩ ⟨y.i,y.g,y.c,x.d⟩ _ (ae4 hn) rfl (by omega);have e4:(flt (l.set n ⟨y.i,y.g,y.c,x.d⟩)).set (n * 4+3) (Z ag y.d)=flt ((l.set n ⟨y.i,y.g,y.c,x.d⟩).set n y):=fA En.kU _ n 3 ⟨y.i,y.g,y.c,x.d⟩ y _ (ae4 hn) rfl (by omega);rw[afN] at e2 e3 e4;rw[<- e4,<- e3,<- e2,<- e1];rfl
section
variable {w w':av}{b:Nat}{l:List En}{i:Int}
theorem PT.put (h:PT w b l){n:Nat}{x:En}(hx:l[n]?=some x)(y:En):PT ((((w.setCell ⟨b,n * 4,none⟩ (Z ag y.g)).setCell ⟨b,n * 4+1,none⟩ (Z ag y.i)).setCell ⟨b,n * 4+2,none⟩ (Z ag y.c)).setCell ⟨b,n * 4+3,none⟩ (Z ag y.d)) b (l.set n y) :=⟨by have e:=(((h.blk.set (n * 4) (Z ag y.g)).set (n * 4+1) (Z ag y.i)).set (n * 4+2) (Z ag y.c)).set (n * 4+3) (Z ag y.d);rw[Wz hx y] at e;exact e,by rw[aeY];exact h.len⟩
theorem sc {a w:av}{b:Nat}{S:List Nat}(h:Only S a w)(hb:b ∈ S\/a.heap.size<=b)(p q r s:az)(k:Nat):Only S a ((((w.setCell ⟨b,k,none⟩ p).setCell ⟨b,k+1,none⟩ q).setCell ⟨b,k+2,none⟩ r).setCell ⟨b,k+3,none⟩ s) :=(((h.setCell (p:=⟨b,k,none⟩) hb p).setCell (p:=⟨b,k+1,none⟩) hb q).setCell (p:=⟨b,k+2,none⟩) hb r).setCell (p:=⟨b,k+3,none⟩) hb s
theorem close_any (h:PT w b l)(hw:Wf l)(i g:Int):aG 162 #[ai (some ⟨b,0,none⟩),Z ag i,Z ag g] w (Z ag (nY l i g)) λw'=>PT w' b (xM l i g)/\Only [b] w w':=by
 have HW:=zT h i g;by_cases he:nY l i g=0
 ·obtain⟨x,hx,x1,x2⟩:=FB he
  have hk:=hw.at_ hx;have Az:=hk.g2;have GF:=hk.g1;obtain⟨h0,h1,AE⟩:=lM hx;obtain⟨n,rfl⟩:∃ n:Nat,i=n:=⟨i.toNat,by omega⟩
  rw[aey] at h1 AE;have e2:xM l n g=l.set n ⟨0,x.g+1,0,0⟩:=by unfold xM;rw[hx];simp[he]
  subst x1;obtain⟨c0,c1,c2,c3⟩:=h.at_ AE;have kX:(n:Int)<8:=by have:=h.len;omega
  have f0:=h.blk.free (n * 4);have f1:=h.blk.free (n * 4+1);have f2:=h.blk.free (n * 4+2);have f3:=h.blk.free (n * 4+3);have HP:=af (aen (h.put AE ⟨0,x.g+1,0,0⟩) (sc (b:=b) (Only.refl [b] w) (aeG (by simp)) (Z ag (x.g+1)) (Z ag 0) (Z ag 0) (Z ag 0) (n * 4)));rw[he] at HW;rw[he,e2];have HW:=af HW;clear h e2 hx AE he hk h0 x2 hw;go_enter func162,ntmps162;go_wp2_with fail;refine bH HW.out ?_;go_wp2_with fail;go_ret;exact⟨rfl,HP.out.1,HP.out.2⟩
 ·have e2:xM l i g=l:=by
   unfold xM;cases hx:k_ l i with
   | none=>rfl
   | some x=>simp[he]
  rw[e2];obtain⟨E,hE⟩:∃ E,nY l i g=E:=⟨_,rfl⟩
  rw[hE] at HW he ⊢;have h4:(E != 0)=true:=by simpa using he
  have HW:=af HW;have HH:=af h;clear h e2 he hE;go_enter func162,ntmps162;go_wp2_with fail;refine bH HW.out ?_;go_wp2_with fail;go_ret;exact⟨rfl,HH.out,Only.refl _ _⟩
theorem wz (w:av)(x:En){B:Nat}(hB:B<=w.heap.size):∃ (w1:av) (p:Nat),(w.alloc (.cells #[Z ag x.g,Z ag x.i,Z ag x.c,Z ag x.d] 206)=w1)/\w.heap.size=p/\bA w1 p 206 x.tc/\Below B w w1 :=⟨_,_,rfl,rfl,bA.new w _ _,(aes B w).alloc hB _⟩
theorem rU (h:PT w b l)(i g:Int):aG 160 #[ai (some ⟨b,0,none⟩),Z ag i,Z ag g] w (ao #[Z ag (FA l i g),Z ag (Jh l i g),Z ag (wq l i g)]) λw'=>aF w w':=by
 have HW:=zT h i g;by_cases hw:nY l i g=0
 ·obtain⟨x,hx,x1,x2⟩:=FB hw
  have e3:wq l i g=if nY l i g=0 then (if x.i=2 then 6 else 0) else nY l i g:=by unfold wq;rw[hx]
  have e1:FA l i g=if wq l i g=0 then x.c else 0:=by unfold FA;rw[hx]
  have e2:Jh l i g=if wq l i g=0 then x.d else 0:=by unfold Jh;rw[hx]
  obtain⟨h0,h1,AE⟩:=lM hx;obtain⟨n,rfl⟩:∃ n:Nat,i=n:=⟨i.toNat,by omega⟩
  rw[aey] at h1 AE;obtain⟨c0,c1,c2,c3⟩:=h.at_ AE;have kX:(n:Int)<8:=by have:=h.len;omega
  obtain⟨w2,p,jI,hp,hK,bC⟩:=wz w x (aem _);have k0:=hK.cell (i:=0) rfl;have k1:=hK.cell (i:=1) rfl;have k2:=hK.cell (i:=2) rfl;have k3:=hK.cell (i:=3) rfl;rw[if_pos hw] at e3;rw[hw] at HW;have f_:=af bC;have HW:=af HW;by_cases h2:x.i=2
  ·rw[if_pos h2] at e3
   rw[e3,if_neg (by omega)] at e1 e2;rw[e1,e2,e3];rw[h2] at c1 jI k1;clear h hx e1 e2 e3 hw h2 AE h0 x1 x2 hK bC;go_enter func160,ntmps160;go_wp2_with fail;refine bH HW.out ?_;go_wp2_with fail;go_ret3;exact⟨rfl,f_.out⟩
  ·rw[if_neg h2] at e3
   rw[e3,if_pos rfl] at e1 e2;rw[e1,e2,e3];have h4:(x.i == 2)=false:=by simpa using h2
   clear h hx e1 e2 e3 hw h2 AE h0 x1 x2 hK bC;go_enter func160,ntmps160;go_wp2_with fail;refine bH HW.out ?_;go_wp2_with fail;go_quiet (fail);go_wp2_with fail;go_ret3;exact⟨rfl,below_drewN f_.out _⟩
 ·obtain⟨E,hE⟩:∃ E,nY l i g=E:=⟨_,rfl⟩
  have e3:wq l i g=E:=by
   unfold wq;rw[hE] at hw;cases hx:k_ l i with
   | none=>have e4:nY l i g=4:=(by unfold nY;rw[hx]);show (4:Int)=E;rw[<- hE,e4]
   | some x=>show (if nY l i g=0 then _ else nY l i g)=E;rw[hE,if_neg hw]
  have e1:FA l i g=0:=by
   rw[hE] at hw;unfold FA;rw[e3];cases k_ l i with
   | none=>rfl
   | some x=>show (if E=0 then _ else _)=_;rw[if_neg hw]
  have e2:Jh l i g=0:=by
   rw[hE] at hw;unfold Jh;rw[e3];cases k_ l i with
   | none=>rfl
   | some x=>show (if E=0 then _ else _)=_;rw[if_neg hw]
  rw[e1,e2,e3];rw[hE] at HW hw;have h4:(E != 0)=true:=by simpa using hw
  have HW:=af HW;clear h e1 e2 e3 hw hE;go_enter func160,ntmps160;go_wp2_with fail;refine bH HW.out ?_;go_wp2_with fail;go_ret3;exact⟨rfl,aes _ _⟩
theorem PT.drew (h:PT w b l):PT w.drew b l:=⟨h.blk,h.len⟩
theorem PT.lt (h:PT w b l):b<w.heap.size:=h.blk.lt
theorem Jk (h:PT w b l)(i:Int):aG 155 #[ai (some ⟨b,0,none⟩),Z ag i] w (Z ag (Fz l i)) λw'=>PT w' b (wo l i)/\Only [b] w w':=by
 have HH:=af (d_ b i w);have HP:=af h;rcases tW h.len i with ⟨hB,e⟩ | ⟨n,x,rfl,hn,hx,e,hB⟩
 ·have e1:Fz l i=1:=by unfold Fz;rw[e]
  have e2:wo l i=l:=by unfold wo;rw[e]
  rw[e1,e2];rw[hB] at HH;clear h e e1 e2 hB;go_enter func155,ntmps155;go_wp2_with fail;refine bH HH.out ?_;go_wp2_with fail;go_ret;exact⟨rfl,HP.out,Only.refl _ _⟩
 ·have e1:Fz l n=if x.i=1 then 0 else 9:=by unfold Fz;rw[e]
  have e2:wo l n=if x.i=1 then l.set n ⟨2,x.g,0,0⟩ else l:=by unfold wo;rw[e];simp
  rw[hB] at HH;obtain⟨c0,c1,c2,c3⟩:=h.at_ hx;have kX:(n:Int)<8:=by omega
  obtain⟨w2,p,jI,hp,hK,bC⟩:=wz w x (aem _);have k0:=hK.cell (i:=0) rfl;have k1:=hK.cell (i:=1) rfl;have AA:p≠b:=λe=>by have:=h.lt;omega
  have h2:=h.below bC;by_cases h1:x.i=1
  ·rw[if_pos h1] at e1 e2
   rw[e1,e2];rw[h1] at c1 jI k1;have h3:=h2.drew;obtain⟨d0,d1,d2,d3⟩:=h2.at_ hx;have f0:=h2.blk.free (n * 4);have f1:=h2.blk.free (n * 4+1);have f2:=h2.blk.free (n * 4+2);have f3:=h2.blk.free (n * 4+3);have HT:=af (aen (h3.put hx ⟨2,x.g,0,0⟩) (sc (b:=b) (Only.of_below (S:=[b]) bC).drew (aeG (by simp)) (Z ag x.g) (Z ag 2) (Z ag 0) (Z ag 0) (n * 4)));clear h e e1 e2 hx hB h1 hK bC HP h2 h3;go_enter func155,ntmps155;go_wp2_with fail;refine bH HH.out ?_;go_wp2_with fail;go_region
   all_goals
    go_wp2_with fail;go_ret;exact⟨rfl,HT.out.1,HT.out.2⟩
  ·rw[if_neg h1] at e1 e2
   rw[e1,e2];have h4:(x.i != 1)=true:=by simpa using h1
   have HP:=af (aen h2 (Only.of_below (S:=[b]) bC));clear h e e1 e2 hx hB h1 hK bC h2;go_enter func155,ntmps155;go_wp2_with fail;refine bH HH.out ?_;go_wp2_with fail;go_ret;exact⟨rfl,HP.out.1,HP.out.2⟩
theorem Jl {l:List En}{y x:En}{j:Nat}(hx:l[j]?=some x):(aeK j y++l.drop j)[j]?=some x/\(aeK j y++l.drop j).set j y=aeK (j+1) y++l.drop (j+1):=by
 have hlt:=(aC.1 hx).1;have e:l.drop j=x::l.drop (j+1):=by rw[afm hlt];rw[aD hlt] at hx;rw[ael hx]
 constructor
 ·rw[List.getElem?_append_right (by simp),e]
  simp
 ·rw[e,List.set_append,if_neg (by simp)]
  simp[afA]
theorem sZ (h:PT w b l)(g:Int):aG 145 #[ai (some ⟨b,0,none⟩),Z ag g] w (ao #[]) λw'=>PT w' b (l.map λ_=>⟨0,g,0,0⟩)/\Only [b] w w':=by
 have HP:=af h;clear h;go_enter func145,ntmps145;go_wp2_with fail
 go_loopw [5] (λc wr=>∃ (j:Nat),j<=8/\c = Z ag j/\Aside (PT wr b (aeK j ⟨0,g,0,0⟩++l.drop j))/\Aside (Only [b] w wr)) (λc _=>8 - (aeI c).toNat)
 case atStart=>exact⟨0,by omega,rfl,HP.out,Only.refl _ _⟩
 case round =>
  obtain⟨j,hj,rfl,hS,hO⟩:=hrel;by_cases hlt:j<8
  ·have jQ:(j:Int)<8:=by omega
   obtain⟨x,hx⟩:∃ x,l[j]?=some x:=⟨_,aD (by rw[HP.out.len];exact hlt)⟩
   obtain⟨b1,b2⟩:=Jl (y:=⟨0,g,0,0⟩) hx;obtain⟨d0,d1,d2,d3⟩:=hS.out.at_ b1;have f0:=hS.out.blk.free (j * 4);have f1:=hS.out.blk.free (j * 4+1);have f2:=hS.out.blk.free (j * 4+2);have f3:=hS.out.blk.free (j * 4+3);have HT:=hS.out.put b1 ⟨0,g,0,0⟩;rw[b2] at HT;have HT:=af HT;have HO:=af (sc (b:=b) hO.out (aeG (by simp)) (Z ag g) (Z ag 0) (Z ag 0) (Z ag 0) (j * 4));clear hx b1 b2 hS hO;go_wp2_with fail;go_roundw
   case rel=>exact⟨j+1,by omega,by go_num,HT.out,HO.out⟩
   case measure=>simp[aeI];omega
  ·have:j=8:=by omega
   subst this;have e:aeK 8 (⟨0,g,0,0⟩:En)++l.drop 8=l.map λ_=>⟨0,g,0,0⟩:=by rw[List.drop_eq_nil_of_le (by rw[HP.out.len];omega),List.append_nil,List.map_const',HP.out.len]
   have HT:=hS.out;rw[e] at HT;have HT:=af HT;clear hS e;go_wp2_with fail
   go_end0
   exact⟨rfl,HT.out,hO.out⟩
def abv:List En:=aeK 8 ⟨0,0,0,0⟩
theorem WA (w:av){B:Nat}(hB:B<=w.heap.size):∃ (w1:av) (p:Nat),(w.alloc (.cells (flt abv).toArray 209)=w1)/\w.heap.size=p/\PT w1 p abv/\Below B w w1 :=⟨_,_,rfl,rfl,⟨bA.new w _ _,rfl⟩,(aes B w).alloc hB _⟩
theorem new_any (w:av):ay prog 88 #[] w λe w'=>∃ b,e = aj (ai (some ⟨b,0,none⟩))/\PT w' b iQ/\w.heap.size<=b/\aF w w':=by obtain⟨w1,p,fJ,hp,h1,aO⟩:=WA w (aem _);have fJ:w.alloc (.cells #[Z ag 0,Z ag 0,Z ag 0,Z ag 0,Z ag 0,Z ag 0,Z ag 0,Z ag 0,Z ag 0,Z ag 0,Z ag 0,Z ag 0,Z ag 0,Z ag 0,Z ag 0,Z ag 0,Z ag 0,Z ag 0,Z ag 0,Z ag 0,Z ag 0,Z ag 0,Z ag 0,Z ag 0,Z ag 0,Z ag 0,Z ag 0,Z ag 0,Z ag 0,Z ag 0,Z ag 0,Z ag 0] 209)=w1:=fJ;have HC:=af (sZ h1 1);have HB:=af (aen aO (show w.heap.size<=p from by omega));clear h1 aO;go_enter func88,ntmps88;go_wp2_with fail;refine HC.out.mono ?_;rintro e w2 ⟨rfl,h2,ho⟩;have HF:=af (aen h2 (HB.out.1.trans (ho.below (B:=w.heap.size) HB.out.1.size (by intro k hk;have:=HB.out.2;simp at hk;omega))));clear h2 ho HC;go_wp2_with fail;go_ret;exact⟨p,rfl,HF.out.1,HB.out.2,HF.out.2⟩
end
theorem Tryz.sizeTab:(prog.info? 207).map (·.size)=some 32:=by kernel_rfl
theorem SL (l:List En)(j:Nat){x:En}(hx:l[j]?=some x):List.take 4 (List.drop (j * 4) (flt l))=[Z ag x.g,Z ag x.i,Z ag x.c,Z ag x.d]:=by
 apply List.ext_getElem?;intro k;rw[List.getElem?_take,List.getElem?_drop];by_cases hk:k<4
 ·have e:=fp En.kU l j k x (x.tc[k]'(by rw[En.kU];exact hk)) hx (aD _)
  rw[if_pos hk];refine e.trans ?_
  match k,hk with
  | 0,_=>rfl
  | 1,_=>rfl
  | 2,_=>rfl
  | 3,_=>rfl
 ·rw[if_neg hk]
  exact(ae1 (by show 4<=k;omega)).symm
section
variable {w w':av}{b:Nat}{l:List En}{i:Int}
theorem NV (hl:l.length=8){j:Nat}{x:En}(hx:l[j]?=some x)(W:av):(Instr.index 207 (.agg (flt l).toArray) (Z ag j)).run prog W = .ok (au #[Z ag x.g,Z ag x.i,Z ag x.c,Z ag x.d]) W:=by
 have hlt:j<8:=by have:=(aC.1 hx).1;omega
 have hi:0<=(j:Int)/\(j:Int)<(8:Nat):=by omega
 have ac4:(isAgg 206).run prog W = .ok true W:=by kernel_rfl
 have hsz:(sizeOf 206).run prog W = .ok 4 W:=by kernel_rfl
 simp[Instr.index,run_underlying underlying207,asIntOf,hi,part,ac4,hsz,SL l j hx,hlt,Sem.run_bind,Result.andThen]
theorem SN (hl:l.length=8):(prog.info? 207).map (·.size)=some (flt l).toArray.size:=by rw[List.size_toArray,Wy,hl];exact Tryz.sizeTab
theorem oq (x:En)(w:av):aG 216 #[au #[Z ag x.g,Z ag x.i,Z ag x.c,Z ag x.d]] w (.bool (x.g == 4294967295)) λw'=>aF w w':=by obtain⟨w2,p,jI,hp,hK,bC⟩:=wz w x (aem _);have k0:=hK.cell (i:=0) rfl;have f_:=af bC;clear hK bC;go_enter func216,ntmps216;go_wp2_with fail;go_ret;exact⟨rfl,f_.out⟩
theorem zU (h:PT w b l)(c g:Int):aG 153 #[ai (some ⟨b,0,none⟩),Z ag c,Z ag g] w (ao #[Z ag (nl l c g),Z ag (grE l c g)]) λw'=>PT w' b (mI l c g)/\Only [b] w w':=by
 have HH:=af h;have W1:=bB c 0 191;have W2:=bB g 0 4294967295;have eA:Fv c g=(Ls c 0 191 && Ls g 0 4294967295):=by unfold Fv Ls;simp only[Bool.and_assoc]
 cases hc:Ls c 0 191 with
 | false =>
  rw[hc] at W1 eA;have e1:grE l c g=1:=by unfold grE;rw[eA];rfl
  have e2:nl l c g=0:=by unfold nl;rw[e1];rfl
  have e3:mI l c g=l:=by unfold mI;rw[e1,if_neg (by omega)]
  rw[e1,e2,e3];have W1:=af W1;clear W2 eA e1 e2 e3 hc h;go_enter func153,ntmps153
  go_wp2_with (first
   | (go_at_call 215;refine bH (W1.out _) ?_))
  go_ret2;exact⟨rfl,HH.out,Only.refl _ _⟩
 | true =>
 cases hg:Ls g 0 4294967295 with
 | false =>
  rw[hc] at W1 eA;rw[hg] at W2 eA;have e1:grE l c g=1:=by unfold grE;rw[eA];rfl
  have e2:nl l c g=0:=by unfold nl;rw[e1];rfl
  have e3:mI l c g=l:=by unfold mI;rw[e1,if_neg (by omega)]
  rw[e1,e2,e3];have W1:=af W1;have W2:=af W2;clear eA e1 e2 e3 hc h hg;go_enter func153,ntmps153;go_wp2_with fail;refine bH (W1.out _) ?_;go_wp2_with fail;refine bH (W2.out _) ?_;go_wp2_with fail;go_ret2;exact⟨rfl,HH.out,Only.refl _ _⟩
 | true =>
 rw[hc] at W1 eA;rw[hg] at W2 eA;have hE:grE l c g=if ll l<l.length then 0 else 8:=by unfold grE;rw[if_pos (by rw[eA];rfl)]
 have HE:=af hE;have HL:=af h.len;have W1:=af W1;have W2:=af W2;have HIX:=af (λj x hx=>NV (j:=j) (x:=x) h.len hx);have yD:=af (SN h.len);have HB:=af h.blk;obtain⟨cs,hcs⟩:∃ cs,(flt l).toArray=cs:=⟨_,rfl⟩
 rw[hcs] at HIX yD;have HB:=af (show w.heap[b]?=some (.cells cs 209 (0,0)) from hcs ▸ HB.out);clear h hcs hE eA hc hg;go_enter func153,ntmps153;go_wp2_with fail;refine bH (W1.out _) ?_;go_wp2_with fail;refine bH (W2.out _) ?_
 go_wp2_with (first
  | (refine wpList_load_row rfl 207 _ rfl b rfl 209 cs (0,0) _ HB.out underlying207 rfl yD.out ?_))
 go_loopw [26] (λi wr=>∃ (j:Nat),j<=8/\i = Z ag j/\Aside (ll l=(l.drop j).findIdx il+j)/\Aside (aF w wr)) (λi _=>8 - (aeI i).toNat)
 case atStart=>exact⟨0,by omega,rfl,by show _=_;rw[List.drop_zero];rfl,aes _ _⟩
 case round =>
  obtain⟨j,hj,rfl,hF,hB⟩:=hrel;by_cases hlt:j<8
  ·have jQ:(j:Int)<8:=by omega
   obtain⟨x,hx⟩:∃ x,l[j]?=some x:=⟨_,aD (by rw[HL.out];exact hlt)⟩
   have hix:=HIX.out j x hx;have HD:=af (FD l j hx);obtain⟨w2,p,jI,hp,hK,bC⟩:=wz wr x hB.out.size;have k0:=hK.cell (i:=0) rfl;have k1:=hK.cell (i:=1) rfl;have k2:=hK.cell (i:=2) rfl;have k3:=hK.cell (i:=3) rfl;have f_:=af (hB.out.trans bC);have HX:=af hx;have HK:=af hK;have yJ:il x=false->Aside (ll l=(l.drop (j+1)).findIdx il+(j+1)):=λe=>by
    show _=_;rw[hF.out,HD.out,e,if_neg (by simp)];omega
   have RT:=af (oq x w2);clear hx bC hB hK;by_cases h0:x.i=0
   ·have bi:(x.i == 0)=true:=by simpa using h0
    by_cases h1:x.g=4294967295
    ·have bg:(x.g == 4294967295)=true:=by simpa using h1
     have qP:=yJ (by unfold il;rw[bi,bg];rfl);have qP:=af qP.out;clear h0 h1 hF HD yJ
     go_wp2_with (first
      | (go_at_call 216;refine aP RT.out λw3 dj=>?_;have yL:=af (f_.out.trans (dj.mono f_.out.size));clear dj))
     go_roundw
     case rel=>exact⟨j+1,by omega,by go_num,qP.out,yL.out⟩
     case measure=>simp[aeI];omega
    ·have bg:(x.g == 4294967295)=false:=by simpa using h1
     have hfr:il x=true:=by unfold il;rw[bi,bg];rfl
     have B_:ll l=j:=by rw[hF.out,HD.out,if_pos hfr];omega
     have e1:grE l c g=0:=by rw[HE.out,B_,if_pos (by rw[HL.out];exact hlt)]
     obtain⟨_,_,z,hz,_,_,_,e4,e5⟩:=xN e1;have hzx:z=x:=by have:=(lM hz).2.2;rw[B_,aey,HX.out] at this;exact(ael this).symm
     rw[B_] at e4 e5;rw[hzx] at e5;have BP:=af (aen e1 (aen e4 e5));clear h0 h1 hF HD yJ hfr B_ e1 e4 e5 hz hzx
     go_wp2_with (first
      | (go_at_call 216;refine aP RT.out λw3 dj=>?_;have yL:=af (aen (f_.out.trans (dj.mono f_.out.size)) (HK.out.below dj HK.out.lt));clear dj))
     clear k0 k1 k2 k3;have k0:=yL.out.2.cell (i:=0) rfl;have h3:=HH.out.below yL.out.1;obtain⟨d0,d1,d2,d3⟩:=h3.at_ HX.out;have f0:=h3.blk.free (j * 4);have f1:=h3.blk.free (j * 4+1);have f2:=h3.blk.free (j * 4+2);have f3:=h3.blk.free (j * 4+3);have HT:=af (aen (h3.drew.put HX.out ⟨1,x.g,c,g⟩) (sc (b:=b) (Only.of_below (S:=[b]) yL.out.1).drew (aeG (by simp)) (Z ag x.g) (Z ag 1) (Z ag c) (Z ag g) (j * 4)));clear h3;go_region
     all_goals
      go_wp2_with fail;go_ret2;refine⟨by rw[BP.out.1,BP.out.2.1];rfl,?_,HT.out.2⟩;rw[BP.out.2.2];exact HT.out.1
   ·have bi:(x.i == 0)=false:=by simpa using h0
    have qP:=yJ (by unfold il;rw[bi];rfl);have qP:=af qP.out;clear h0 hF HD yJ;go_wp2_with fail;go_roundw
    case rel=>exact⟨j+1,by omega,by go_num,qP.out,f_.out⟩
    case measure=>simp[aeI];omega
  ·have:j=8:=by omega
   subst this;have XS:=hF.out;rw[List.drop_eq_nil_of_le (by rw[HL.out];omega)] at XS;have e1:grE l c g=8:=by rw[HE.out,if_neg (by rw[XS,HL.out];simp)]
   have e2:nl l c g=0:=by unfold nl;rw[e1,if_neg (by omega)]
   have e3:mI l c g=l:=by unfold mI;rw[e1,if_neg (by omega)]
   have BP:=af (aen e1 (aen e2 e3));have f_:=af hB.out;clear e1 e2 e3 hF XS hB;go_wp2_with fail;go_ret2;refine⟨by rw[BP.out.1,BP.out.2.1];rfl,?_,Only.of_below f_.out⟩;rw[BP.out.2.2];exact HH.out.below f_.out
end
end Px
end
section
namespace Wl
open Hp Tn Px
theorem Lu (W:Ws)(o:Op){τ:Wt}(hi:tn W o.t=some τ) :
  (o.d=0/\mJ W o=lI τ.x o.t τ.s o.n/\jV W o=dh W o.t ⟨τ.x,qb τ.x τ.s o.n,τ.c⟩) \/
  (o.d=1/\mJ W o=rY τ.x o.t τ.s o.w/\jV W o=dh W o.t ⟨τ.x,ef τ.x o.t τ.s o.w,τ.c⟩) \/
  (o.d=2/\mJ W o=rZ τ.x o.t τ.s o.w o.n/\jV W o=dh W o.t ⟨τ.x,ql τ.x o.t τ.s o.w o.n,τ.c⟩) \/
  (o.d=3/\mJ W o=nj τ.x o.t τ.s o.w o.n o.o/\jV W o=dh W o.t ⟨τ.x,lJ τ.x o.t τ.s o.w o.n o.o,τ.c⟩) \/
  (o.d=4/\mJ W o=jX τ.x o.t τ.s o.w o.n o.o/\jV W o=dh W o.t ⟨τ.x,jy τ.x o.t τ.s o.w o.n o.o,τ.c⟩) \/
  (o.d=5/\mJ W o=GZ W o τ/\jV W o=Cc W o τ) \/
  (o.d=6/\mJ W o=Ln W o/\jV W o=FI W o) \/
  (o.d=7/\mJ W o=G0 W o/\jV W o=Cd W o) \/
  (o.d=8/\mJ W o=Lp W o/\jV W o=W) \/
  (o.d=9/\mJ W o=NT W o/\jV W o=G1 W o) \/
  (o.d=10/\mJ W o=(if cZ o.n=true then datum (nN τ.x o.n.toNat τ.s) else wrong 3)/\jV W o=dh W o.t ⟨τ.x,(if cZ o.n=true then lO τ.x o.n.toNat τ.s else τ.s),τ.c⟩) \/
  (o.d=11/\mJ W o=(if cZ o.n=true then datum (pQ τ.x o.n.toNat τ.c τ.s) else wrong 3)/\jV W o=dh W o.t ⟨τ.x,(if cZ o.n=true then rT τ.x o.n.toNat τ.c τ.s else τ.s),(if cZ o.n=true then tM τ.x o.n.toNat τ.c τ.s else τ.c)⟩) \/
  (o.d=12/\mJ W o=datum τ.s.u/\jV W o=dh W o.t ⟨τ.x,τ.s,τ.c⟩) \/
  ((o.d<0\/12<o.d)/\mJ W o=wrong 3/\jV W o=W):=by
 have key:o.d=0\/o.d=1\/o.d=2\/o.d=3\/o.d=4\/o.d=5\/o.d=6\/o.d=7\/o.d=8\/o.d=9\/o.d=10\/o.d=11\/o.d=12\/(o.d<0\/12<o.d):=by omega
 unfold mJ jV;rw[hi];simp only;rcases key with hd | hd | hd | hd | hd | hd | hd | hd | hd | hd | hd | hd | hd | hd
 ·exact .inl ⟨hd,by simp[hd,nZ,Wn,gG],by simp[hd,nZ,Fj,Lj,gG]⟩
 ·exact .inr (.inl ⟨hd,by simp[hd,nZ,Wn,gG],by simp[hd,nZ,Fj,Lj,gG]⟩)
 ·exact .inr (.inr (.inl ⟨hd,by simp[hd,nZ,Wn,gG],by simp[hd,nZ,Fj,Lj,gG]⟩))
 ·exact .inr (.inr (.inr (.inl ⟨hd,by simp[hd,nZ,Wn,gG],by simp[hd,nZ,Fj,Lj,gG]⟩)))
 ·exact .inr (.inr (.inr (.inr (.inl ⟨hd,by simp[hd,nZ,Wn,gG],by simp[hd,nZ,Fj,Lj,gG]⟩))))
 ·exact .inr (.inr (.inr (.inr (.inr (.inl ⟨hd,by simp[hd,nZ],by simp[hd,nZ]⟩)))))
 ·exact .inr (.inr (.inr (.inr (.inr (.inr (.inl ⟨hd,by simp[hd,nZ],by simp[hd,nZ]⟩))))))
 ·exact .inr (.inr (.inr (.inr (.inr (.inr (.inr (.inl ⟨hd,by simp[hd,nZ],by simp[hd,nZ]⟩)))))))
 ·exact .inr (.inr (.inr (.inr (.inr (.inr (.inr (.inr (.inl ⟨hd,by simp[hd,nZ],by simp[hd,nZ]⟩))))))))
 ·exact .inr (.inr (.inr (.inr (.inr (.inr (.inr (.inr (.inr (.inl ⟨hd,by simp[hd,nZ],by simp[hd,nZ]⟩)))))))))
 ·exact .inr (.inr (.inr (.inr (.inr (.inr (.inr (.inr (.inr (.inr (.inl ⟨hd,by simp[hd,nZ,Wn,gG],by simp[hd,nZ,Fj,Lj,gG]⟩))))))))))
 ·exact .inr (.inr (.inr (.inr (.inr (.inr (.inr (.inr (.inr (.inr (.inr (.inl ⟨hd,by simp[hd,nZ,Wn,gG],by simp[hd,nZ,Fj,Lj,gG]⟩)))))))))))
 ·exact .inr (.inr (.inr (.inr (.inr (.inr (.inr (.inr (.inr (.inr (.inr (.inr (.inl ⟨hd,by simp[hd,nZ,Wn,gG],by simp[hd,nZ,Fj,Lj,gG]⟩))))))))))))
 ·have k0:nZ o.d=0:=by
   unfold nZ;rw[if_neg (by omega),if_neg (by omega),if_neg (by omega),if_neg (by omega),if_neg (by omega),if_neg (by omega),if_neg (by omega),if_neg (by omega)]
  refine .inr (.inr (.inr (.inr (.inr (.inr (.inr (.inr (.inr (.inr (.inr (.inr (.inr (⟨hd,?_,?_⟩)))))))))))))
  ·rw[if_neg (λh=>h k0),if_neg (by omega),if_neg (by omega),if_neg (by omega),if_neg (by omega),if_neg (by omega)]
  ·rw[if_neg (λh=>h k0),if_neg (by omega),if_neg (by omega),if_neg (by omega),if_neg (by omega)]
end Wl
end
end Go.Proofs.YtdhgpmndgcggfaaGreatDoor
