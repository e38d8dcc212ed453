/- Plain words -/
import Derived.Test.YtdhgpmndgcggfaaGreatDoorPD
import Derived.Test.YtdhgpmndgcggfaaGreatDoorPF
namespace Go.Proofs.YtdhgpmndgcggfaaGreatDoor
open List renaming getElem?_eq_some_iff → aC, getElem?_eq_getElem → aD, mem_append → aep, length_append → aeu, count_append → aex, count_pos_iff → aeE, set_cons_zero → aeL, set_cons_succ → aeM, length_cons → aeV, map_cons → afc, count_eq_zero → afg, flatMap_cons → afk, perm_ext_iff_of_nodup → afs, length_nil → afX, count_cons → agb
open Option.some renaming inj → ael
open Int renaming toNat_natCast → aey
open Bool renaming and_eq_true → aez
section
namespace Hp
open Go.RowKit
structure Hs where
 cs:List St
 p:Nat->List Int
 ct:List Int
 vs:List (List Vl)
 u:Int
 r:List Int
 k:List Int
 q:List Int
 ch:Int
def ptrs (l:List Vl):List Int:=(l.filter (λy=>y.k == 2)).map Vl.n
def iI (vs:List (List Vl)):List Int:=vs.flatMap ptrs
def Hs.all (s:Hs):List Int:=iI s.vs++(s.r++s.q)
def Hs.outs (s:Hs)(n:Int):List Int:=ptrs (s.vs[n.toNat]?.getD [])
def tick (c:Int):Int:=wrap64 (c+1)
def mX (z:St):Int:=if z.t=true then bV z.c else 0
def nM (cs:List St):Int:=(cs.map mX).sum
def kh (x:Sh)(s:Hs)(n:Int):Int:=if dk n x.n=true then (if aS s.cs n=true then 0 else 9) else 1
def nU (x:Sh)(s:Hs)(n:Int):Int:=if bV n=0 then 1 else if x.q - s.u<bV n then 7 else vM s.p n
def Bw (x:Sh)(s:Hs)(n:Int):Int:=if nU x s n=0 then AU s.p n else 0
def qb (x:Sh)(s:Hs)(n:Int):Hs:=if nU x s n=0 then ⟨vN s.cs s.p n,vO s.p n,s.ct.set (AU s.p n).toNat 1,s.vs,s.u+bV n,Rt.dN (AU s.p n) s.r,s.k,s.q,tick s.ch⟩ else s
def yO (s:Hs)(n:Int):Int:=if mQ s.ct n=2147483647 then 8 else 0
def IB (s:Hs)(n:Int):List Int:=s.ct.set n.toNat (mQ s.ct n+1)
def qD (x:Sh)(s:Hs)(n:Int):Int:=if kh x s n=0 then (if Rt.hasB s.r n=true then 0 else yO s n) else kh x s n
def lZ (x:Sh)(s:Hs)(n:Int):Hs:=if kh x s n=0/\Rt.hasB s.r n=false/\yO s n=0 then { s with ct:=IB s n,r:=Rt.dN n s.r,ch:=tick s.ch } else s
def tC (x:Sh)(s:Hs)(n:Int):Int:=if dk n x.n=true then (if Rt.hasB s.r n=true then 0 else 9) else 1
def rL (x:Sh)(s:Hs)(n:Int):Hs:=if tC x s n=0 then { s with r:=Rt.aZ n s.r,q:=s.q++[n],ch:=tick s.ch } else s
def lv (y:Vl):Bool:=y.k == 2
def vE (x:Sh)(s:Hs)(n k:Int)(y:Vl):Int :=
 if (jK x n k && Wd.aK y.k y.n && (!lv y || dk y.n x.n))=true then (if (aS s.cs n && (!lv y || aS s.cs y.n))=true then 0 else 9) else 1
def kj (x:Sh)(s:Hs)(n k:Int)(y:Vl):Int:=if vE x s n k y=0 then (if lv y=true then yO s y.n else 0) else vE x s n k y
def j5 (s:Hs)(n k:Int)(y:Vl):Hs:={ s with vs:=s.vs.set n.toNat ((s.vs[n.toNat]?.getD []).set k.toNat y),q:=s.q++ptrs [vz s.vs n k] }
def kn (x:Sh)(s:Hs)(n k:Int)(y:Vl):Hs:=if kj x s n k y=0 then j5 { s with ct:=if lv y=true then IB s y.n else s.ct,ch:=tick s.ch } n k y else s
def fD (s:Hs)(n:Int):Nat->Hs
 | 0=>s
 | j+1=>j5 (fD s n j) n j Vl.nil
def nV (x:Sh)(s:Hs)(n:Int):Hs:=if kh x s n=0 then fD { s with ch:=tick s.ch } n (kz x n) else s
def uN (s:Hs)(l:List Int):Hs:={ s with k:=l.foldl (λk c=>Rt.aZ c k) s.k }
def sP (s:Hs):Bool:=mQ s.ct (Qu.qy s.q) == Qu.qa s.q
def ED (x:Sh)(s:Hs)(n:Int):Hs:=⟨mG s.cs n,qt s.cs s.p n,uI s.cs s.ct n,xa x s.cs s.vs n,s.u - bV (x.cz n),s.r,Rt.aZ n s.k,s.q++s.outs n,s.ch⟩
def loS (s:Hs)(n t:Int):Hs:={ s with ct:=s.ct.set n.toNat (mQ s.ct n - t),k:=Rt.dN n s.k }
def eK (x:Sh)(s:Hs):Hs :=
 if sP s=true then ED x { s with q:=Qu.eU s.q,ch:=tick s.ch } (Qu.qy s.q) else loS { s with q:=Qu.eU s.q,ch:=tick s.ch } (Qu.qy s.q) (Qu.qa s.q)
def lO (x:Sh):Nat->Hs->Hs
 | 0,s=>s
 | n+1,s=>if Qu.eD s.q=true then lO x n (eK x s) else s
def nN (x:Sh):Nat->Hs->Int
 | 0,_=>0
 | n+1,s=>if Qu.eD s.q=true then (if sP s=true then 1 else 0)+nN x n (eK x s) else 0
structure Ok (x:Sh)(s:Hs):Prop where
 may:x.may=true
 l1:s.cs.length=x.n
 l2:s.ct.length=x.n
 l3:s.vs.length=x.n
 inv:Inv x s.cs s.p
 rows:∀ (i:Nat) (l:List Vl),s.vs[i]?=some l->l.length=x.sl i
 yB:∀ (i:Nat) (l:List Vl),s.vs[i]?=some l->∀ y ∈ l,y.ok
 dead:∀ (i:Nat) (z:St),s.cs[i]?=some z->z.t=false->s.ct[i]?=some 0/\s.vs[i]?=some (dM (x.sl i))
 cnt:∀ (i:Nat) (c:Int),s.ct[i]?=some c->c=(s.all.count (i:Int):Nat)
 rng:∀ z ∈ s.all,dk z x.n=true
 lX:Rt.Inc s.r
 nW:Rt.Inc s.k
 qk:∀ z ∈ s.k,aS s.cs z=true
 used:s.u=nM s.cs
 fit:Ac.Fit s.u x.q
theorem iV {X Y:Type}(f:X->List Y)(μ:List Y->Nat)(h0:∀ a b,μ (a++b)=μ a+μ b):∀ (L:List X) (i:Nat) (l l':X),L[i]?=some l->μ ((L.set i l').flatMap f)+μ (f l)=μ (L.flatMap f)+μ (f l')
 | y::L,0,l,l',h=>by
  obtain rfl:y=l:=by simpa using h
  simp only[aeL,afk,h0];omega
 | y::L,i+1,l,l',h=>by
  have:=iV f μ h0 L i l l' (by simpa using h);simp only[aeM,afk,h0];omega
theorem IC {vs:List (List Vl)}{i:Nat}{l:List Vl}(h:vs[i]?=some l)(l':List Vl)(z:Int):(iI (vs.set i l')).count z+(ptrs l).count z=(iI vs).count z+(ptrs l').count z :=iV ptrs (List.count z) (λ_ _=>aex ..) vs i l l' h
theorem EE {vs:List (List Vl)}{i:Nat}{l:List Vl}(h:vs[i]?=some l)(l':List Vl):(iI (vs.set i l')).length+(ptrs l).length=(iI vs).length+(ptrs l').length :=iV ptrs List.length (λ_ _=>aeu) vs i l l' h
theorem QP {k:Nat}{l:List Vl}{o y:Vl}(h:l[k]?=some o)(μ:List Int->Nat)(h0:∀ a b,μ (a++b)=μ a+μ b):μ (ptrs (l.set k y))+μ (ptrs [o])=μ (ptrs l)+μ (ptrs [y]):=by
 have e:∀ L:List Vl,ptrs L=L.flatMap (λy=>ptrs [y]):=λL=>by
  induction L with
  | nil=>rfl
  | cons a L ih =>
   rw[afk,<- ih];unfold ptrs;by_cases h:a.k == 2 <;> simp[h]
 rw[e (l.set k y),e l];exact iV (λy=>ptrs [y]) μ h0 l k o y h
theorem rM:∀ {cs:List St} {i:Nat} {z z':St},cs[i]?=some z->nM (cs.set i z')+mX z=nM cs+mX z'
 | y::cs,0,z,z',h=>by
  obtain rfl:y=z:=by simpa using h
  simp only[nM,aeL,afc,List.sum_cons];omega
 | y::cs,i+1,z,z',h=>by
  have:=rM (cs:=cs) (i:=i) (z:=z) (z':=z') (by simpa using h);simp only[nM,aeM,afc,List.sum_cons] at this ⊢;omega
theorem EF (cs:List St)(h:∀ z ∈ cs,0<=z.c/\z.c<3):0<=nM cs:=by
 induction cs with
 | nil=>simp[nM]
 | cons y cs ih =>
  have h1:=ih (λz hz=>h z (List.mem_cons_of_mem _ hz));simp only[nM,afc,List.sum_cons] at h1 ⊢;have:0<=mX y:=by unfold mX bV;split <;> (repeat' split) <;> omega
  omega
theorem pM (n:Nat):ptrs (dM n)=[]:=by simp[dM,ptrs,Vl.nil]
theorem jN (y:Vl):ptrs [y]=if lv y=true then [y.n] else []:=by unfold ptrs lv;by_cases h:y.k == 2 <;> simp[h]
theorem fE {cs:List St}{i:Nat}{z:St}(h:cs[i]?=some z):aS cs i=z.t:=by have:=(aC.1 h).1;simp[aS,dU (n:=(i:Int)) (m:=cs.length) (by omega),h]
theorem iW {cs:List St}{n:Int}(h:aS cs n=true):∃ (i:Nat) (z:St),n=i/\cs[i]?=some z/\z.t=true:=by
 unfold aS at h;rw[aez] at h;have h1:=dP h.1;obtain⟨i,rfl⟩:∃ i:Nat,n=i:=⟨n.toNat,by omega⟩
 obtain⟨z,hz⟩:∃ z,cs[i]?=some z:=⟨_,aD (by omega)⟩
 refine⟨i,z,rfl,hz,?_⟩;have:=h.2;simpa[hz] using this
theorem iT {x:Sh}(hm:x.may=true){z:Int}(h:dk z x.n=true):Rt.okB z=true:=by have:=dP h;have:=(x.count hm).2;exact Rt.iU (by omega) (by omega)
theorem QQ {l:List Int}{z:Int}:Rt.hasB l z=false ↔ z ∉ l:=by
 cases h:Rt.hasB l z
 ·simp only[true_iff];intro hm;rw[Rt.cj.2 hm] at h;cases h
 ·simp only[Bool.true_eq_false,false_iff,Classical.not_not];exact Rt.cj.1 h
theorem xu {n:Int}{l:List Int}(hi:Rt.Inc l)(hn:n ∉ l)(h0:0<=n)(h1:n<=191):(Rt.dN n l).Perm (n::l):=by
 refine(afs ?_ ?_).2 (λz=>by rw[Rt.lU];simp)
 ·exact(Rt.kL h0 h1 hi).1.imp (λhab e=>by omega)
 ·rw[List.nodup_cons]
  exact⟨hn,hi.1.imp (λhab e=>by omega)⟩
theorem VJ {n:Int}{l:List Int}(hi:Rt.Inc l)(hn:n ∈ l):l.Perm (n::Rt.aZ n l):=by
 refine(afs ?_ ?_).2 (λz=>?_)
 ·exact hi.1.imp (λhab e=>by omega)
 ·rw[List.nodup_cons]
  exact⟨λh=>(Rt.eM.1 h).2 rfl,(Rt.iJ n hi).1.imp (λhab e=>by omega)⟩
 ·rw[List.mem_cons,Rt.eM]
  constructor
  ·intro h
   by_cases e:z=n
   ·exact Or.inl e
   ·exact Or.inr ⟨h,e⟩
  ·rintro(rfl | ⟨h,_⟩)
   ·exact hn
   ·exact h
section
variable {x:Sh}{s:Hs}
theorem Ok.at_ (h:Ok x s){i:Nat}(hi:i<x.n):s.ct[i]?=some ((s.all.count (i:Int):Nat):Int):=by
 have hl:=h.l2;obtain⟨c,hc⟩:∃ c,s.ct[i]?=some c:=⟨_,aD (by omega)⟩
 rw[hc,h.cnt i c hc]
theorem Ok.ctz (h:Ok x s){i:Nat}(hi:i<x.n):mQ s.ct i=((s.all.count (i:Int):Nat):Int):=jo (h.at_ hi)
theorem Ok.live (h:Ok x s){n:Int}(hn:n ∈ s.all):∃ (i:Nat) (z:St),n=i/\i<x.n/\s.cs[i]?=some z/\z.t=true:=by
 have h1:=dP (h.rng n hn);obtain⟨i,rfl⟩:∃ i:Nat,n=i:=⟨n.toNat,by omega⟩
 have hi:i<x.n:=by omega
 have hl:=h.l1;obtain⟨z,hz⟩:∃ z,s.cs[i]?=some z:=⟨_,aD (by omega)⟩
 refine⟨i,z,rfl,hi,hz,?_⟩;cases ht:z.t
 ·have h2:=(h.dead i z hz ht).1
  rw[h.at_ hi] at h2;have:s.all.count (i:Int)=0:=by have:=ael h2;omega
  exact absurd hn (afg.1 this)
 ·rfl
theorem Ok.ZC (h:Ok x s){i:Nat}{z:St}(hz:s.cs[i]?=some z)(ht:z.t=false):(i:Int) ∉ s.all:=by
 intro hm;obtain⟨j,y,e,_,hy,qE⟩:=h.live hm;obtain rfl:i=j:=by omega
 rw[hz] at hy;obtain rfl:=ael hy;rw[ht] at qE;cases qE
theorem Ok.row (h:Ok x s){i:Nat}(hi:i<x.n):∃ l,s.vs[i]?=some l/\l.length=x.sl i/\(∀ y ∈ l,y.ok)/\s.outs i=ptrs l:=by
 have hl:=h.l3;obtain⟨l,hv⟩:∃ l,s.vs[i]?=some l:=⟨_,aD (by omega)⟩
 exact⟨l,hv,h.rows i l hv,h.yB i l hv,by simp[Hs.outs,hv]⟩
theorem rN {vs:List (List Vl)}{i:Nat}{l:List Vl}(h:vs[i]?=some l){z:Int}(hz:z ∈ ptrs l):z ∈ iI vs:=List.mem_flatMap.2 ⟨l,List.mem_of_getElem? h,hz⟩
theorem Nu {cs:List St}{i:Nat}{z z':St}(hz:cs[i]?=some z)(ht:z'.t=true){n:Int}(h:aS cs n=true):aS (cs.set i z') n=true:=by
 obtain⟨j,y,rfl,hy,qE⟩:=iW h;have:=fE (cs:=cs.set i z') (i:=j) (z:=if i=j then z' else y) (by rw[at_set hz];split <;> simp[hy]);rw[this];split
 ·exact ht
 ·exact qE
theorem Nv {cs:List St}{i:Nat}{z z':St}(hz:cs[i]?=some z){n:Int}(hne:n≠i)(h:aS cs n=true):aS (cs.set i z') n=true:=by obtain⟨j,y,rfl,hy,qE⟩:=iW h;have:=fE (cs:=cs.set i z') (i:=j) (z:=y) (by rw[at_set hz,if_neg (by omega)];exact hy);rw[this];exact qE
theorem xw (h:Ok x s){n:Int}(he:nU x s n=0):∃ (i:Nat) (z:St),AU s.p n=i/\i<x.n/\s.cs[i]?=some z/\z.t=false/\z.c=n/\vN s.cs s.p n=s.cs.set i ⟨z.c,z.g,true⟩/\vM s.p n=0/\bV n≠0/\¬ x.q - s.u<bV n:=by
 unfold nU at he;split at he
 ·cases he
 ·rename_i h1
  split at he
  ·cases he
  ·rename_i h2
   have hl:=h.l1;rcases kF s.p n with hn | ⟨k,rfl,hk,hp | ⟨M,i,hp⟩⟩
   ·have:=(wU (cs:=s.cs) (p:=s.p) hn).2.1
    rw[this] at he;cases he
   ·have:=(rl (cs:=s.cs) hk hp).2.1
    rw[this] at he;cases he
   ·obtain⟨i',z,rfl,hz,hc,ht,hg⟩:=h.inv.mem k hk i (by rw[hp];simp)
    obtain⟨e1,e2,e3,e4⟩:=wV hk hp hz;exact⟨i',z,e1,by have:=(aC.1 hz).1;omega,hz,ht,hc,e3,e2,h1,h2⟩
theorem size_pos (n:Int):0<=bV n:=by unfold bV;(repeat' split) <;> omega
theorem rO (h:Ok x s){i:Nat}(hi:i<x.n):(0:Int)<=i/\(i:Int)<=191:=by have:=(x.count h.may).2;omega
theorem Ok.al (h:Ok x s)(n:Int):Ok x (qb x s n)/\(qb x s n).all.length<=s.all.length+1:=by
 unfold qb;by_cases he:nU x s n=0
 ·rw[if_pos he]
  obtain⟨i,z,e1,hi,hz,ht,hc,e3,e2,h1,h2⟩:=xw h he;have hno:=h.ZC hz ht;have hb:=rO h hi;have hnr:(i:Int) ∉ s.r:=λhm=>hno (by simp[Hs.all,hm])
  have hp:=xu h.lX hnr hb.1 hb.2;have hli:=h.l1;have J5:=h.l2;have Us:=h.l3;have hsz:=size_pos n;have Bz:=h.inv.tk n;rw[e3] at Bz;rw[e1,e3,aey];have px:∀ y:Int,(iI s.vs++(Rt.dN (i:Int) s.r++s.q)).count y=s.all.count y+(if (i:Int)=y then 1 else 0):=λy=>by
   simp only[Hs.all,aex,hp.count_eq,agb,beq_iff_eq];omega
  refine⟨⟨h.may,by simpa using h.l1,by simpa using h.l2,h.l3,Bz,h.rows,h.yB,λj y hy qE=>?_,λj c jh=>?_,λy hy=>?_,Rt.kL hb.1 hb.2 h.lX,h.nW,λy hy=>Nu hz rfl (h.qk y hy),?_,?_⟩,?_⟩
  ·show (s.ct.set i 1)[j]?=some 0/\s.vs[j]?=_
   have hy':(s.cs.set i ⟨z.c,z.g,true⟩)[j]?=some y:=hy;rw[at_set hz] at hy';by_cases e:i=j
   ·rw[if_pos e] at hy'
    obtain rfl:=ael hy';cases qE
   ·rw[if_neg e] at hy'
    rw[set_any,if_neg e];exact h.dead j y hy' qE
  ·have qh:(s.ct.set i 1)[j]?=some c:=jh
   show c=(((iI s.vs++(Rt.dN (i:Int) s.r++s.q)).count (j:Int):Nat):Int);rw[px,set_any] at *;by_cases e:i=j
   ·subst e
    rw[if_pos rfl,if_pos (by omega)] at qh;rw[if_pos rfl,afg.2 hno];have:=ael qh;omega
   ·rw[if_neg e] at qh
    rw[if_neg (by omega)];have:=h.cnt j c qh;omega
  ·have hy':y ∈ iI s.vs++(Rt.dN (i:Int) s.r++s.q):=hy
   have hcp:=px y;have:=aeE.2 hy';by_cases e:(i:Int)=y
   ·subst e
    exact dU (by omega)
   ·rw[if_neg e] at hcp
    exact h.rng y (aeE.1 (by omega))
  ·show s.u+bV n=nM (s.cs.set i ⟨z.c,z.g,true⟩)
   have:=rM (z':=⟨z.c,z.g,true⟩) hz;have e5:mX z=0:=by simp[mX,ht]
   have e6:mX ⟨z.c,z.g,true⟩=bV n:=by simp[mX,hc]
   rw[e5,e6] at this;have:=h.used;omega
  ·obtain⟨f0,f1,f2⟩:=h.fit
   exact⟨show 0<=s.u+bV n by omega,show s.u+bV n<=x.q by omega,f2⟩
  ·show (iI s.vs++(Rt.dN (i:Int) s.r++s.q)).length<=_
   simp only[Hs.all,aeu,hp.length_eq,aeV];omega
 ·rw[if_neg he]
  exact⟨h,by omega⟩
theorem qF (h:Ok x s){n:Int}(he:kh x s n=0):∃ (i:Nat) (z:St),n=i/\i<x.n/\s.cs[i]?=some z/\z.t=true:=by
 unfold kh at he;split at he
 ·split at he
  ·rename_i h2
   obtain⟨i,z,rfl,hz,ht⟩:=iW h2;have:=h.l1;exact⟨i,z,rfl,by have:=(aC.1 hz).1;omega,hz,ht⟩
  ·cases he
 ·cases he
theorem Ok.up (h:Ok x s){i:Nat}{z:St}(hi:i<x.n)(hz:s.cs[i]?=some z)(ht:z.t=true){s':Hs}(e1:s'.cs=s.cs)(e2:s'.p=s.p)(e3:s'.ct=IB s i)(e4:s'.u=s.u)(e5:s'.k=s.k)
  (l3:s'.vs.length=x.n) (rows:∀ (i:Nat) (l:List Vl),s'.vs[i]?=some l->l.length=x.sl i) (yB:∀ (i:Nat) (l:List Vl),s'.vs[i]?=some l->∀ y ∈ l,y.ok) (dv:∀ (j:Nat) (y:St),s.cs[j]?=some y->y.t=false->s'.vs[j]?=s.vs[j]?)
  (ri:Rt.Inc s'.r) (hc:∀ y,s'.all.count y=s.all.count y+(if (i:Int)=y then 1 else 0)):Ok x s':=by
 have q8:=h.ctz hi;have J5:=h.l2;refine⟨h.may,by rw[e1];exact h.l1,by rw[e3];simpa[IB] using h.l2,l3,by rw[e1,e2];exact h.inv,rows,yB,λj y hy qE=>?_,λj c jh=>?_,λy hy=>?_,ri,by rw[e5];exact h.nW,by rw[e1,e5];exact h.qk,by rw[e1,e4];exact h.used,by rw[e4];exact h.fit⟩
 ·rw[e1] at hy
  rw[e3,dv j y hy qE];have hd:=h.dead j y hy qE;refine⟨?_,hd.2⟩;unfold IB;rw[aey,set_any,if_neg]
  ·exact hd.1
  ·rintro rfl
   rw[hz] at hy;obtain rfl:=ael hy;rw[ht] at qE;cases qE
 ·rw[e3] at jh
  unfold IB at jh;rw[aey,set_any] at jh;rw[hc];by_cases e:i=j
  ·subst e
   rw[if_pos rfl,if_pos (by omega)] at jh;have:=ael jh;rw[if_pos rfl];omega
  ·rw[if_neg e] at jh
   rw[if_neg (by omega)];have:=h.cnt j c jh;omega
 ·have hp:=aeE.2 hy
  rw[hc] at hp;by_cases e:(i:Int)=y
  ·subst e
   exact dU (by omega)
  ·rw[if_neg e] at hp
   exact h.rng y (aeE.1 (by omega))
theorem Ok.ho (h:Ok x s)(n:Int):Ok x (lZ x s n)/\(lZ x s n).all.length<=s.all.length+1:=by
 unfold lZ;by_cases he:kh x s n=0/\Rt.hasB s.r n=false/\yO s n=0
 ·rw[if_pos he]
  obtain⟨i,z,rfl,hi,hz,ht⟩:=qF h he.1;have hb:=rO h hi;have hp:=xu h.lX (QQ.1 he.2.1) hb.1 hb.2;refine⟨h.up hi hz ht rfl rfl rfl rfl rfl h.l3 h.rows h.yB (λ_ _ _ _=>rfl) (Rt.kL hb.1 hb.2 h.lX) (λy=>?_),?_⟩
  ·simp only[Hs.all,aex,hp.count_eq,agb,beq_iff_eq]
   omega
  ·simp only[Hs.all,aeu,hp.length_eq,aeV]
   omega
 ·rw[if_neg he]
  exact⟨h,by omega⟩
theorem Ok.moved (h:Ok x s){s':Hs}(e1:s'.cs=s.cs)(e2:s'.p=s.p)(e3:s'.ct=s.ct)(e4:s'.u=s.u)(e6:s'.vs=s.vs)(ri:Rt.Inc s'.r)(ki:Rt.Inc s'.k)(kl:∀ z ∈ s'.k,z ∈ s.k)(hc:∀ y,s'.all.count y=s.all.count y):Ok x s' :=
 ⟨h.may,by rw[e1];exact h.l1,by rw[e3];exact h.l2,by rw[e6];exact h.l3,by rw[e1,e2];exact h.inv,by rw[e6];exact h.rows,by rw[e6];exact h.yB,by rw[e1,e3,e6];exact h.dead,λj c jh=>by rw[hc];exact h.cnt j c (e3 ▸ jh),
  λy hy=>h.rng y (aeE.1 (by rw[<- hc];exact aeE.2 hy)),ri,ki,λz hz=>by rw[e1];exact h.qk z (kl z hz),by rw[e1,e4];exact h.used,by rw[e4];exact h.fit⟩
theorem Ok.dr (h:Ok x s)(n:Int):Ok x (rL x s n)/\(rL x s n).all.length<=s.all.length+1:=by
 unfold rL;by_cases he:tC x s n=0
 ·rw[if_pos he]
  have hm:n ∈ s.r:=by
   unfold tC at he;split at he
   ·split at he
    ·rename_i h2;exact Rt.cj.1 h2
    ·cases he
   ·cases he
  have hp:=VJ h.lX hm;refine⟨h.moved rfl rfl rfl rfl rfl (Rt.iJ n h.lX) h.nW (λ_ hz=>hz) (λy=>?_),?_⟩
  ·simp only[Hs.all,aex,hp.count_eq,agb,List.count_nil,beq_iff_eq]
   omega
  ·have:=hp.length_eq
   simp only[Hs.all,aeu,aeV,afX] at this ⊢;omega
 ·rw[if_neg he]
  exact⟨h,by omega⟩
theorem QR (l:List Int):∀ k:List Int,Rt.Inc k->Rt.Inc (l.foldl (λk c=>Rt.aZ c k) k)/\∀ z ∈ l.foldl (λk c=>Rt.aZ c k) k,z ∈ k:=by
 induction l with
 | nil=>exact λk hk=>⟨hk,λ_ h=>h⟩
 | cons c l ih =>
  intro k hk;obtain⟨h1,h2⟩:=ih (Rt.aZ c k) (Rt.iJ c hk);exact⟨h1,λz hz=>(Rt.eM.1 (h2 z hz)).1⟩
theorem Ok.fg (h:Ok x s)(l:List Int):Ok x (uN s l)/\(uN s l).all.length=s.all.length :=⟨h.moved rfl rfl rfl rfl rfl h.lX (QR l s.k h.nW).1 (QR l s.k h.nW).2 (λ_=>rfl),rfl⟩
theorem Ok.ID (h:Ok x s):Ok x { s with ch:=tick s.ch }:=h.moved rfl rfl rfl rfl rfl h.lX h.nW (λ_ hz=>hz) (λ_=>rfl)
theorem l6 {i k:Nat}{l:List Vl}(hv:s.vs[i]?=some l){o:Vl}(ho:l[k]?=some o)(y:Vl)(μ:List Int->Nat)(h0:∀ a b,μ (a++b)=μ a+μ b):μ (j5 s i k y).all=μ s.all+μ (ptrs [y]):=by
 have h1:=QP ho (y:=y) μ h0;have h2:=iV ptrs μ h0 s.vs i l (l.set k y) hv;have e:vz s.vs i k=o:=by simp[vz,hv,ho]
 simp only[j5,Hs.all,h0,e,aey,hv,Option.getD_some];unfold iI at *;omega
theorem QS (h:Ok x s){i k:Nat}{z:St}{l:List Vl}(hz:s.cs[i]?=some z)(ht:z.t=true)(hv:s.vs[i]?=some l)(y:Vl)(hy:y.ok) :
  (j5 s i k y).vs=s.vs.set i (l.set k y)/\(j5 s i k y).vs.length=x.n/\(∀ (j:Nat) (l':List Vl),(j5 s i k y).vs[j]?=some l'->l'.length=x.sl j)/\(∀ (j:Nat) (l':List Vl),(j5 s i k y).vs[j]?=some l'->∀ y ∈ l',y.ok) /\
  (∀ (j:Nat) (y':St),s.cs[j]?=some y'->y'.t=false->(j5 s i k y).vs[j]?=s.vs[j]?):=by
 have e:(j5 s i k y).vs=s.vs.set i (l.set k y):=by simp[j5,hv]
 refine⟨e,by rw[e];simpa using h.l3,?_,?_,?_⟩
 ·rw[e]
  intro j l' hl';rw[set_any] at hl';split at hl'
  ·rename_i e2
   subst e2;rw[if_pos (aC.1 hv).1] at hl';obtain rfl:=ael hl';simpa using h.rows i l hv
  ·exact h.rows j l' hl'
 ·rw[e]
  intro j l' hl';rw[set_any] at hl';split at hl'
  ·rename_i e2
   subst e2;rw[if_pos (aC.1 hv).1] at hl';obtain rfl:=ael hl';intro y' hy';rcases List.mem_or_eq_of_mem_set hy' with h' | rfl
   ·exact h.yB i l hv y' h'
   ·exact hy
  ·exact h.yB j l' hl'
 ·intro j y' hj qE
  rw[e,set_any,if_neg];rintro rfl;rw[hz] at hj;obtain rfl:=ael hj;rw[ht] at qE;cases qE
theorem Ok.rp (h:Ok x s){i k:Nat}{z:St}(hi:i<x.n)(hz:s.cs[i]?=some z)(ht:z.t=true)(hk:k<x.sl i):Ok x (j5 s i k Vl.nil)/\(j5 s i k Vl.nil).all.length=s.all.length:=by
 obtain⟨l,hv,hl,aM,_⟩:=h.row hi;obtain⟨o,ho⟩:∃ o,l[k]?=some o:=⟨_,aD (by omega)⟩
 obtain⟨q1,q2,q3,q4,q5⟩:=QS h hz ht hv (k:=k) Vl.nil Vl.qx;have zk:=λy=>l6 hv ho Vl.nil (List.count y) (λ_ _=>aex ..)
 have hlen:=l6 hv ho Vl.nil List.length (λ_ _=>aeu);have e0:ptrs [Vl.nil]=[]:=rfl;rw[e0] at hlen;refine⟨⟨h.may,h.l1,h.l2,q2,h.inv,q3,q4,λj y hy qE=>⟨(h.dead j y hy qE).1,(q5 j y hy qE).trans (h.dead j y hy qE).2⟩,λj c hc=>?_,λy hy=>?_,h.lX,h.nW,h.qk,h.used,h.fit⟩,by simpa using hlen⟩
 ·rw[zk,e0]
  have:=h.cnt j c hc;simpa using this
 ·have hp:=aeE.2 hy
  rw[zk,e0] at hp;exact h.rng y (aeE.1 (by simpa using hp))
theorem BA (s:Hs)(n:Int):∀ j,(fD s n j).cs=s.cs
 | 0=>rfl
 | j+1=>(show (fD s n j).cs=s.cs from BA s n j)
theorem Ok.cut (h:Ok x s){i:Nat}{z:St}(hi:i<x.n)(hz:s.cs[i]?=some z)(ht:z.t=true):∀ j,j<=x.sl i->Ok x (fD s i j)/\(fD s i j).all.length=s.all.length
 | 0,_=>⟨h,rfl⟩
 | j+1,hj=>by
  obtain⟨h1,h2⟩:=Ok.cut h hi hz ht j (by omega);obtain⟨h3,h4⟩:=h1.rp (k:=j) hi (by rw[BA];exact hz) ht (by omega);exact⟨h3,h4.trans h2⟩
theorem Ok.cu (h:Ok x s)(n:Int):Ok x (nV x s n)/\(nV x s n).all.length=s.all.length:=by
 unfold nV;by_cases he:kh x s n=0
 ·rw[if_pos he]
  obtain⟨i,z,rfl,hi,hz,ht⟩:=qF h he;rw[gq hi];exact h.ID.cut hi hz ht (x.sl i) (Nat.le_refl _)
 ·rw[if_neg he]
  exact⟨h,rfl⟩
theorem BB (h:Ok x s){n k:Int}{y:Vl}(he:vE x s n k y=0):∃ (i j:Nat) (z:St),n=i/\k=j/\i<x.n/\j<x.sl i/\s.cs[i]?=some z/\z.t=true/\Wd.aK y.k y.n=true/\(lv y=true->∃ (m:Nat) (v:St),y.n=m/\m<x.n/\s.cs[m]?=some v/\v.t=true):=by
 unfold vE at he;split at he
 ·rename_i h1
  split at he
  ·rename_i h2
   simp only[aez,Bool.or_eq_true,Bool.not_eq_true'] at h1 h2;obtain⟨⟨a1,a2⟩,a3⟩:=h1;obtain⟨b1,b2⟩:=h2;obtain⟨i,j,rfl,rfl,hi,hj⟩:=wZ a1;obtain⟨i',z,e,hz,ht⟩:=iW b1;obtain rfl:i=i':=by omega
   refine⟨i,j,z,rfl,rfl,hi,hj,hz,ht,a2,λhp=>?_⟩;rcases b2 with b2 | b2
   ·rw[hp] at b2;cases b2
   ·obtain⟨m,v,e,hv,UA⟩:=iW b2
    have:=h.l1;exact⟨m,v,e,by have:=(aC.1 hv).1;omega,hv,UA⟩
  ·cases he
 ·cases he
theorem Ok.pu (h:Ok x s)(n k:Int)(y:Vl)(hy:0<=y.n):Ok x (kn x s n k y)/\(kn x s n k y).all.length<=s.all.length+1:=by
 unfold kn;by_cases he:kj x s n k y=0
 ·rw[if_pos he]
  have hf:vE x s n k y=0:=by
   unfold kj at he;split at he
   ·assumption
   ·exact he
  obtain⟨i,j,z,rfl,rfl,hi,hj,hz,ht,hr,hp⟩:=BB h hf;have aM:y.ok:=⟨hy,hr⟩
  obtain⟨l,hv,hl,_,_⟩:=h.row hi;obtain⟨o,ho⟩:∃ o,l[j]?=some o:=⟨_,aD (by omega)⟩
  cases hb:lv y
  ·rw[if_neg (by simp)]
   have h':=h.ID;generalize hs:({ s with ct:=s.ct,ch:=tick s.ch }:Hs)=s1 at *;subst hs;obtain⟨q1,q2,q3,q4,q5⟩:=QS h' hz ht hv (k:=j) y aM;have zk:=λz=>l6 (s:={ s with ct:=s.ct,ch:=tick s.ch }) hv ho y (List.count z) (λ_ _=>aex ..)
   have hlen:=l6 (s:={ s with ct:=s.ct,ch:=tick s.ch }) hv ho y List.length (λ_ _=>aeu);have e0:ptrs [y]=[]:=by rw[jN,hb];rfl
   rw[e0] at hlen;refine⟨⟨h'.may,h'.l1,h'.l2,q2,h'.inv,q3,q4,λj y hy qE=>⟨(h'.dead j y hy qE).1,(q5 j y hy qE).trans (h'.dead j y hy qE).2⟩,λj c hc=>?_,λy hy=>?_,h'.lX,h'.nW,h'.qk,h'.used,h'.fit⟩,by
    have:s.all.length=({ s with ct:=s.ct,ch:=tick s.ch }:Hs).all.length:=rfl;simp at hlen;omega⟩
   ·rw[zk,e0]
    have:=h'.cnt j c hc;simpa using this
   ·have hp:=aeE.2 hy
    rw[zk,e0] at hp;exact h'.rng y (aeE.1 (by simpa using hp))
  ·rw[if_pos rfl]
   obtain⟨m,v,e,hm,hvm,UA⟩:=hp hb;obtain⟨q1,q2,q3,q4,q5⟩:=QS (s:=s) h hz ht hv (k:=j) y aM;have zk:=λz=>l6 (s:=s) hv ho y (List.count z) (λ_ _=>aex ..)
   have hlen:=l6 (s:=s) hv ho y List.length (λ_ _=>aeu);have e0:ptrs [y]=[(m:Int)]:=by rw[jN,hb,e];rfl
   rw[e0] at hlen;rw[e];refine⟨h.up hm hvm UA rfl rfl rfl rfl rfl q2 q3 q4 q5 h.lX (λw=>?_),?_⟩
   ·show (j5 s i j y).all.count w=_
    rw[zk,e0];simp only[agb,List.count_nil,beq_iff_eq];omega
   ·show (j5 s i j y).all.length<=_
    simp at hlen;omega
 ·rw[if_neg he]
  exact⟨h,by omega⟩
theorem QT {q:List Int}(h:Qu.eD q=true):∃ c r,q=c::r/\Qu.qy q=c/\Qu.qa q=((q.count c:Nat):Int)/\Qu.eU q=Rt.aZ c r:=by
 cases q with
 | nil=>cases h
 | cons c r=>exact⟨c,r,rfl,rfl,rfl,rfl⟩
theorem IE (c:Int)(l:List Int)(z:Int):(Rt.aZ c l).count z=if z=c then 0 else l.count z:=by
 by_cases e:z=c
 ·subst e
  rw[if_pos rfl];exact afg.2 (λh=>(Rt.eM.1 h).2 rfl)
 ·rw[if_neg e]
  exact Qu.Ek c e l
theorem Ok.pop (h:Ok x s)(hb:Qu.eD s.q=true):∃ (i:Nat) (z:St) (N:Nat),Qu.qy s.q=i/\i<x.n/\s.cs[i]?=some z/\z.t=true/\Qu.qa s.q=N/\N=s.q.count (i:Int)/\1<=N /\
  (∀ y,(Qu.eU s.q).count y=if y=i then 0 else s.q.count y)/\(Qu.eU s.q).length+N=s.q.length/\mQ s.ct i=((iI s.vs++s.r).count (i:Int)+N:Nat):=by
 obtain⟨c,r,e,e1,e2,e3⟩:=QT hb;have hm:c ∈ s.all:=by simp[Hs.all,e]
 obtain⟨i,z,rfl,hi,hz,ht⟩:=h.live hm;refine⟨i,z,s.q.count (i:Int),e1,hi,hz,ht,e2,rfl,?_,λy=>?_,?_,?_⟩
 ·exact aeE.2 (by rw[e];simp)
 ·rw[e3,IE,e,agb]
  by_cases e4:y=(i:Int)
  ·simp[e4]
  ·have:¬ (i:Int)=y:=λh=>e4 h.symm
   simp[e4,this]
 ·rw[e3,e]
  have:=Qu.xj (i:Int) r;unfold Qu.cnt at this;simp only[List.count_cons_self,aeV];omega
 ·rw[h.ctz hi]
  simp only[Hs.all,aex];omega
theorem Ok.lo (h:Ok x s)(hb:Qu.eD s.q=true)(hd:sP s=false):Ok x (eK x s)/\(eK x s).all.length<=s.all.length:=by
 obtain⟨i,z,N,e1,hi,hz,ht,e2,hN,h1,hc,hl,q8⟩:=h.pop hb;have hne:mQ s.ct i≠N:=by
  intro e;have:sP s=true:=by unfold sP;rw[e1,e2,e];simp
  rw[this] at hd;cases hd
 have GI:=rO h hi;have hlen:=h.l2;unfold eK;rw[if_neg (by rw[hd];simp),e1,e2];unfold loS;rw[aey,q8];have px:∀ y:Int,(iI s.vs++(s.r++Qu.eU s.q)).count y+(if y=i then N else 0)=s.all.count y:=λy=>by
  simp only[Hs.all,aex,hc y];by_cases e:y=(i:Int)
  ·subst e;rw[if_pos rfl,if_pos rfl];omega
  ·rw[if_neg e,if_neg e];omega
 have aaR:∀ y,y ∈ iI s.vs++(s.r++Qu.eU s.q)->y ∈ s.all:=λy hy=>by
  have:=aeE.2 hy;have:=px y;exact aeE.1 (by omega)
 refine⟨⟨h.may,h.l1,by simpa using h.l2,h.l3,h.inv,h.rows,h.yB,λj y hy qE=>?_,λj c jh=>?_,λy hy=>h.rng y (aaR y hy),h.lX,Rt.kL GI.1 GI.2 h.nW,λy hy=>?_,h.used,h.fit⟩,?_⟩
 ·have U8:=h.dead j y hy qE
  refine⟨?_,U8.2⟩;show (s.ct.set i _)[j]?=some 0;rw[set_any,if_neg]
  ·exact U8.1
  ·rintro rfl
   have hy':s.cs[i]?=some y:=hy;rw[hz] at hy';obtain rfl:=ael hy';rw[ht] at qE;cases qE
 ·show c=(((iI s.vs++(s.r++Qu.eU s.q)).count (j:Int):Nat):Int)
  have qh:(s.ct.set i ((((iI s.vs++s.r).count (i:Int)+N:Nat):Int) - N))[j]?=some c:=jh;have hcj:=px j;rw[set_any] at qh;by_cases e:i=j
  ·subst e
   rw[if_pos rfl,if_pos (by omega)] at qh;have:=ael qh;have e5:(iI s.vs++(s.r++Qu.eU s.q)).count (i:Int)=(iI s.vs++s.r).count (i:Int):=by have:=hc i;rw[if_pos rfl] at this;simp only[aex];omega
   rw[e5];omega
  ·rw[if_neg e] at qh
   rw[if_neg (by omega)] at hcj;have:=h.cnt j c qh;omega
 ·have hy':y ∈ Rt.dN (i:Int) s.k:=hy
  rw[Rt.lU] at hy';rcases hy' with rfl | hy'
  ·show aS s.cs i=true
   rw[fE hz];exact ht
  ·exact h.qk y hy'
 ·show (iI s.vs++(s.r++Qu.eU s.q)).length<=_
  simp only[Hs.all,aeu];omega
theorem vU {cs:List St}{i:Nat}{z:St}(hz:cs[i]?=some z)(ht:z.t=true):nS cs i=true/\mG cs i=cs.set i ⟨z.c,z.g+1,false⟩:=by
 have hi:dk (i:Int) cs.length=true:=dU (by have:=(aC.1 hz).1;omega);have hs:ox cs (i:Int)=z:=by simp[ox,hz]
 have:nS cs i=true:=by simp[nS,hi,hs,ht]
 exact⟨this,by simp[mG,this,hs]⟩
theorem rP (h:Ok x s)(hb:Qu.eD s.q=true)(hd:sP s=true):∃ (i:Nat) (z:St) (l:List Vl),Qu.qy s.q=i/\i<x.n/\s.cs[i]?=some z/\z.t=true/\s.vs[i]?=some l/\(∀ y ∈ l,y.ok)/\l.length=x.sl i/\s.outs i=ptrs l/\mQ s.ct i=Qu.qa s.q /\
  (i:Int) ∉ iI s.vs/\(i:Int) ∉ s.r/\(i:Int) ∉ ptrs l/\(∀ y,(Qu.eU s.q).count y=if y=i then 0 else s.q.count y)/\(Qu.eU s.q).length+1<=s.q.length:=by
 obtain⟨i,z,N,e1,hi,hz,ht,e2,hN,h1,hc,hl,q8⟩:=h.pop hb;obtain⟨l,hv,C9,aM,ho⟩:=h.row hi;have he:mQ s.ct i=N:=by unfold sP at hd;rw[e1,e2] at hd;simpa using hd
 have h0:(iI s.vs++s.r).count (i:Int)=0:=by omega
 rw[aex] at h0;have fS:(i:Int) ∉ iI s.vs:=afg.1 (by omega);exact⟨i,z,l,e1,hi,hz,ht,hv,aM,C9,ho,by rw[he,e2],fS,afg.1 (by omega),λhm=>fS (rN hv hm),hc,by omega⟩
theorem Ok.di (h:Ok x s)(hb:Qu.eD s.q=true)(hd:sP s=true):Ok x (eK x s)/\(eK x s).all.length<=s.all.length:=by
 obtain⟨i,z,l,e1,hi,hz,ht,hv,aM,C9,ho,q8,Dn,kX,L6,hc,hl⟩:=rP h hb hd;obtain⟨g1,g2⟩:=vU hz ht;have J5:=h.l2;have Us:=h.l3;have Bz:=h.inv.gv i;have hzc:=(h.inv.cell i z hz)
 rw[g2] at Bz;unfold eK;rw[if_pos hd,e1];unfold ED;have eo:({ s with q:=Qu.eU s.q,ch:=tick s.ch }:Hs).outs i=ptrs l:=by simp[Hs.outs,hv]
 rw[eo];simp only;rw[g2,uI,xa,if_pos g1,if_pos g1,aey];have hcv:=IC hv (dM (x.sl i));have hlv:=EE hv (dM (x.sl i));rw[pM] at hlv;have px:∀ y:Int,(iI (s.vs.set i (dM (x.sl i)))++(s.r++(Qu.eU s.q++ptrs l))).count y=if y=i then 0 else s.all.count y:=λy=>by
  have h1:=hcv y;rw[pM] at h1;simp only[List.count_nil] at h1;simp only[Hs.all,aex,hc y];by_cases e:y=(i:Int)
  ·subst e
   rw[if_pos rfl,if_pos rfl];have:=afg.2 Dn;have:=afg.2 kX;omega
  ·rw[if_neg e,if_neg e];omega
 have YY:=rM (z':=⟨z.c,z.g+1,false⟩) hz;have e5:mX z=bV (x.cz i):=by simp[mX,ht,hzc.1]
 have e6:mX ⟨z.c,z.g+1,false⟩=0:=by simp[mX]
 rw[e5,e6] at YY;have aaS:=h.used;have jS:=h.fit;refine⟨⟨h.may,by simpa using h.l1,by simpa using h.l2,by simpa using h.l3,Bz,λj l' hl'=>?_,λj l' hl'=>?_,λj y hy qE=>?_,λj c jh=>?_,λy hy=>?_,h.lX,Rt.iJ _ h.nW,λy hy=>?_,?_,?_⟩,?_⟩
 ·have yy:(s.vs.set i (dM (x.sl i)))[j]?=some l':=hl'
  rw[set_any] at yy;split at yy
  ·rename_i e
   subst e;rw[if_pos (by omega)] at yy;obtain rfl:=ael yy;simp[dM]
  ·exact h.rows j l' yy
 ·have yy:(s.vs.set i (dM (x.sl i)))[j]?=some l':=hl'
  rw[set_any] at yy;split at yy
  ·rename_i e
   subst e;rw[if_pos (by omega)] at yy;obtain rfl:=ael yy;intro y hy;rw[List.eq_of_mem_replicate hy];exact Vl.qx
  ·exact h.yB j l' yy
 ·have hy':(s.cs.set i ⟨z.c,z.g+1,false⟩)[j]?=some y:=hy
  show (s.ct.set i 0)[j]?=some 0/\(s.vs.set i (dM (x.sl i)))[j]?=_;rw[at_set hz] at hy';rw[set_any,set_any];by_cases e:i=j
  ·subst e
   rw[if_pos rfl,if_pos rfl,if_pos (by omega),if_pos (by omega)];exact⟨rfl,rfl⟩
  ·rw[if_neg e] at hy'
   rw[if_neg e,if_neg e];exact h.dead j y hy' qE
 ·show c=(((iI (s.vs.set i (dM (x.sl i)))++(s.r++(Qu.eU s.q++ptrs l))).count (j:Int):Nat):Int)
  have qh:(s.ct.set i 0)[j]?=some c:=jh;rw[px];rw[set_any] at qh;by_cases e:i=j
  ·subst e
   rw[if_pos rfl,if_pos (by omega)] at qh;have:=ael qh;rw[if_pos rfl];omega
  ·rw[if_neg e] at qh
   rw[if_neg (by omega)];exact h.cnt j c qh
 ·have hy':y ∈ iI (s.vs.set i (dM (x.sl i)))++(s.r++(Qu.eU s.q++ptrs l)):=hy
  have hp:=aeE.2 hy';rw[px] at hp;by_cases e:y=(i:Int)
  ·rw[if_pos e] at hp;omega
  ·rw[if_neg e] at hp
   exact h.rng y (aeE.1 hp)
 ·obtain⟨k1,k2⟩:=Rt.eM.1 (show y ∈ Rt.aZ (i:Int) s.k from hy)
  exact Nv hz k2 (h.qk y k1)
 ·show s.u - bV (x.cz i)=nM (s.cs.set i ⟨z.c,z.g+1,false⟩)
  omega
 ·have hp:=EF (s.cs.set i ⟨z.c,z.g+1,false⟩) (λy hy=>by
   obtain⟨j,hj⟩:=List.mem_iff_getElem?.1 hy;exact(Bz.cell j y hj).2.1)
  have:=size_pos (x.cz i);exact⟨show 0<=s.u - bV (x.cz i) by omega,show s.u - bV (x.cz i)<=x.q by have:=jS.ut;omega,jS.t1⟩
 ·show (iI (s.vs.set i (dM (x.sl i)))++(s.r++(Qu.eU s.q++ptrs l))).length<=_
  simp only[Hs.all,aeu,afX] at hlv ⊢;omega
theorem Ok.one (h:Ok x s)(hb:Qu.eD s.q=true):Ok x (eK x s)/\(eK x s).all.length<=s.all.length:=by
 cases hd:sP s
 ·exact h.lo hb hd
 ·exact h.di hb hd
end
theorem Ok.dn {x:Sh}:∀ (n:Nat) {s:Hs},Ok x s->Ok x (lO x n s)/\(lO x n s).all.length<=s.all.length
 | 0,s,h=>⟨h,Nat.le_refl _⟩
 | n+1,s,h=>by
  unfold lO;split
  ·rename_i hb
   obtain⟨h1,h2⟩:=h.one hb;obtain⟨h3,h4⟩:=Ok.dn n h1;exact⟨h3,Nat.le_trans h4 h2⟩
  ·exact⟨h,Nat.le_refl _⟩
def Hs.gr (s:Hs):Gr.Gp:=⟨(b_ s.cs s.cs.length).map λi=>⟨i,s.outs i⟩,s.r⟩
theorem iY {cs:List St}{c:Int}:∀ {j:Nat},c ∈ b_ cs j->∃ (i:Nat) (z:St),c=i/\i<j/\cs[i]?=some z/\z.t=true
 | 0,h=>by simp[b_] at h
 | j+1,h=>by
  rw[b_,aep] at h;rcases h with h | h
  ·obtain⟨i,z,e,hi,hz,ht⟩:=iY h
   exact⟨i,z,e,by omega,hz,ht⟩
  ·split at h
   ·rename_i hj
    cases hz:cs[j]? with
    | none=>rw[hz] at hj;cases hj
    | some z =>
     rw[hz] at hj;exact⟨j,z,by simpa using h,by omega,hz,by simpa using hj⟩
   ·cases h
theorem KR {cs:List St}{i:Nat}{z:St}(hz:cs[i]?=some z)(ht:z.t=true):∀ {j:Nat},i<j->(i:Int) ∈ b_ cs j
 | 0,h=>by omega
 | j+1,h=>by
  rw[b_,aep];by_cases e:i=j
  ·subst e
   right;rw[hz];simp[ht]
  ·exact Or.inl (KR hz ht (by omega))
theorem EG (cs:List St):∀ j,(b_ cs j).Pairwise (·<·)
 | 0=>by simp[b_]
 | j+1=>by
  rw[b_,List.pairwise_append];refine⟨EG cs j,by split <;> simp,λa ha b hb=>?_⟩;obtain⟨i,z,rfl,hi,_⟩:=iY ha;split at hb
  ·simp at hb
   omega
  ·cases hb
theorem qG (s:Hs):Gr.ids s.gr=b_ s.cs s.cs.length:=by unfold Gr.ids Hs.gr;simp[Function.comp_def]
theorem fF {s:Hs}{z:Int}:z ∈ Gr.ids s.gr ↔ aS s.cs z=true:=by
 rw[qG];constructor
 ·intro h
  obtain⟨i,y,rfl,hi,hy,ht⟩:=iY h;rw[fE hy,ht]
 ·intro h
  obtain⟨i,y,rfl,hy,ht⟩:=iW h;exact KR hy ht (aC.1 hy).1
theorem pN {s:Hs}{n:Gr.Nd}:n ∈ s.gr.nodes ↔ aS s.cs n.id=true/\n.out=s.outs n.id:=by
 rw[<- fF,qG];unfold Hs.gr;rw[List.mem_map];constructor
 ·rintro⟨i,hi,rfl⟩
  exact⟨hi,rfl⟩
 ·rintro⟨hi,ho⟩
  exact⟨n.id,hi,by rw[<- ho]⟩
section
variable {x:Sh}{s:Hs}
theorem Ok.QU (h:Ok x s){i:Nat}(hi:i<x.n){c:Int}(hc:c ∈ s.outs i):c ∈ s.all:=by obtain⟨l,hv,_,_,ho⟩:=h.row hi;rw[ho] at hc;exact List.mem_append_left _ (rN hv hc)
theorem Ok.BD (h:Ok x s){c:Int}(hc:dk c x.n=true):aI c:=by have:=dP hc;have:=(x.count h.may).2;unfold aI;omega
theorem Ok.xx (h:Ok x s){z:Int}(hz:z ∈ s.all):aS s.cs z=true:=by obtain⟨i,y,rfl,_,hy,ht⟩:=h.live hz;rw[fE hy,ht]
theorem Ok.jG (h:Ok x s){z:Int}(hz:aS s.cs z=true):∃ (i:Nat) (y:St),z=i/\i<x.n/\s.cs[i]?=some y/\y.t=true:=by obtain⟨i,y,rfl,hy,ht⟩:=iW hz;have:=h.l1;exact⟨i,y,rfl,by have:=(aC.1 hy).1;omega,hy,ht⟩
theorem Ok.EH (h:Ok x s){z o:Int}(hz:aS s.cs z=true)(ho:o ∈ s.outs z):aS s.cs o=true:=by obtain⟨i,y,rfl,hi,hy,ht⟩:=h.jG hz;exact h.xx (h.QU hi ho)
theorem Ok.right (h:Ok x s):Gr.aK s.gr=true:=by
 unfold Gr.aK;simp only[aez,List.all_eq_true,Gr.tA,Gr.oG];refine⟨λn hn o ho=>?_,⟨?_,?_⟩,?_⟩
 ·obtain⟨h1,h2⟩:=pN.1 hn
  rw[h2] at ho;exact fF.2 (h.EH h1 ho)
 ·rw[qG]
  refine⟨EG _ _,λz hz=>?_⟩;obtain⟨i,y,rfl,_⟩:=iY hz;omega
 ·exact⟨h.lX.1,λz hz=>by have:=h.lX.2 z hz;omega⟩
 ·intro z hz
  exact fF.2 (h.xx (by simp[Hs.all,show z ∈ s.r from hz]))
theorem Ok.ri (h:Ok x s):Gr.Ri s.gr:=Gr.zF h.right
end
section
variable {x:Sh}{s t:Hs}
theorem ZD (_:Qu.eD s.q=true)(hd:sP s=false):eK x s=loS { s with q:=Qu.eU s.q,ch:=tick s.ch } (Qu.qy s.q) (Qu.qa s.q):=by unfold eK;rw[if_neg (by rw[hd];simp)]
theorem Ok.aaT (h:Ok x s)(hb:Qu.eD s.q=true)(hd:sP s=true):∃ (i:Nat) (z:St) (l:List Vl),Qu.qy s.q=i/\s.cs[i]?=some z/\z.t=true/\s.vs[i]?=some l/\(i:Int) ∉ iI s.vs/\(i:Int) ∉ s.r/\s.outs i=ptrs l /\
  eK x s=⟨s.cs.set i ⟨z.c,z.g+1,false⟩,qt s.cs s.p i,s.ct.set i 0,s.vs.set i (dM (x.sl i)),s.u - bV (x.cz i),s.r,Rt.aZ i s.k,Qu.eU s.q++ptrs l,tick s.ch⟩:=by
 obtain⟨i,z,l,e1,hi,hz,ht,hv,aM,C9,ho,q8,Dn,kX,L6,hc,hl⟩:=rP h hb hd;obtain⟨g1,g2⟩:=vU hz ht;refine⟨i,z,l,e1,hz,ht,hv,Dn,kX,ho,?_⟩;unfold eK;rw[if_pos hd,e1];unfold ED;have eo:({ s with q:=Qu.eU s.q,ch:=tick s.ch }:Hs).outs i=ptrs l:=by simp[Hs.outs,hv]
 rw[eo];simp only;rw[g2,uI,xa,if_pos g1,if_pos g1,aey]
end
end Hp
end
end Go.Proofs.YtdhgpmndgcggfaaGreatDoor
