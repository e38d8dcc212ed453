/- Plain: each -/
import Derived.Test.YtdhgpmndgcggfaaGreatDoorPQ
import Derived.Test.YtdhgpmndgcggfaaGreatDoorPJ
namespace Go.Proofs.YtdhgpmndgcggfaaGreatDoor
open List renaming getElem?_eq_some_iff → aC, getElem?_eq_getElem → aD, mem_of_getElem? → aE, mem_append → aep, length_append → aeu, mem_filter → aew, append_assoc → aeA, take_length → aeF, mem_map → ae6, flatMap_cons → afk, perm_ext_iff_of_nodup → afs, filter_cons → afu, nodup_append → afL, mem_mergeSort → agc
open Int renaming toNat_natCast → aey, le_refl → afb
open Nat renaming zero_le → ae2
section
namespace Hp
open Go.RowKit
section
variable {x:Sh}{s t:Hs}
theorem EW {i:Nat}{l:List Vl}(hv:s.vs[i]?=some l):∀ j,j<=l.length->fD s i j={ s with vs:=s.vs.set i (dM j++l.drop j),q:=s.q++ptrs (l.take j) }
 | 0,_=>by
  have hi:=(aC.1 hv).1;have e:s.vs.set i l=s.vs:=by obtain⟨_,rfl⟩:=aC.1 hv;exact List.set_getElem_self hi
  simp[fD,dM,ptrs,e]
 | j+1,hj=>by
  have hi:=(aC.1 hv).1;obtain⟨o,ho⟩:∃ o,l[j]?=some o:=⟨_,aD (by omega)⟩
  unfold fD;rw[EW hv j (by omega)];unfold j5;have e0:(s.vs.set i (dM j++l.drop j))[i]?=some (dM j++l.drop j):=by rw[List.getElem?_set_self hi]
  have e1:(dM j++l.drop j)[j]?=some o:=by rw[List.getElem?_append_right (by simp[dM])];simp[dM,ho]
  have e2:vz (s.vs.set i (dM j++l.drop j)) i j=o:=by unfold vz;rw[aey,e0];simp[e1]
  have e3:(dM j++l.drop j).set j Vl.nil=dM (j+1)++l.drop (j+1):=by
   rw[List.set_append_right _ _ (by simp[dM])];have ed:l.drop j=o::l.drop (j+1):=by obtain⟨yI,rfl⟩:=aC.1 ho;exact List.drop_eq_getElem_cons yI
   rw[ed];simp only[dM,List.length_replicate,Nat.sub_self,List.set_cons_zero];rw[List.replicate_succ',aeA];rfl
  simp only[aey,e0,Option.getD_some,e2,e3,List.set_set];have e4:ptrs (l.take (j+1))=ptrs (l.take j)++ptrs [o]:=by rw[List.take_add_one,ho];simp[ptrs]
  rw[e4,aeA]
theorem Yv (h:Ok x s){n:Int}(he:kh x s n=0):∃ (i:Nat) (z:St) (l:List Vl),n=i/\i<x.n/\s.cs[i]?=some z/\z.t=true/\s.vs[i]?=some l/\s.outs i=ptrs l /\
  nV x s n={ s with vs:=s.vs.set i (dM (x.sl i)),q:=s.q++ptrs l,ch:=tick s.ch }:=by
 obtain⟨i,z,rfl,hi,hz,ht⟩:=qF h he;obtain⟨l,hv,hl,_,ho⟩:=h.row hi;refine⟨i,z,l,rfl,hi,hz,ht,hv,ho,?_⟩;unfold nV;have e:kz x i=x.sl i:=by unfold kz;rw[if_pos (dU (by omega)),aey]
 rw[if_pos he,e,EW (s:={ s with ch:=tick s.ch }) hv _ (by omega)];rw[List.take_of_length_le (by omega),List.drop_of_length_le (by omega),List.append_nil]
theorem Rx (h:Ok x s){n:Int}(ht:aS s.cs n=true):kh x s n=0:=by obtain⟨i,y,rfl,hi,_⟩:=h.jG ht;unfold kh;rw[if_pos (dU (by omega)),if_pos ht]
theorem Ry {cs:List St}{i:Nat}{z:St}(h:cs[i]?=some z):bL cs i=z.g:=by have hi:dk (i:Int) cs.length=true:=dU (by have:=(aC.1 h).1;omega);unfold bL;rw[if_pos hi,aey,h];rfl
theorem Ok.xF (h:Ok x s){z:Int}{fr:List Int}(hz:Gr.vS s.gr fr z):aS s.cs z=true:=fF.1 (hz.node h.ri)
theorem BQ (s:Hs):(eK x s).ch=tick s.ch:=by unfold eK;split <;> rfl
theorem Ok.Z3 (h:Ok x s)(hb:Qu.eD s.q=true):(eK x s).all.length<s.all.length:=by
 cases hd:sP s
 ·rw[ZD hb hd]
  obtain⟨i,z,N,e1,hi,hz,ht,e2,hN,h1,hc,hl,q8⟩:=h.pop hb;show (iI s.vs++(s.r++Qu.eU s.q)).length<_;simp only[Hs.all,aeu];omega
 ·obtain⟨i,z,l,e1,hz,ht,hv,Dn,kX,ho,es⟩:=h.aaT hb hd
  obtain⟨_,_,N,_,_,_,_,_,_,h1,_,hl,_⟩:=h.pop hb;rw[es];have hlv:=EE hv (dM (x.sl i));rw[pM] at hlv;show (iI (s.vs.set i (dM (x.sl i)))++(s.r++(Qu.eU s.q++ptrs l))).length<_;simp only[Hs.all,aeu,List.length_nil] at hlv ⊢;omega
theorem ly {c:Int}(h0:0<=c)(h1:c<=4611686018427387904):tick c=c+1:=cB (by unfold aI;omega)
theorem Ok.RA:∀ (n:Nat) {s:Hs},Ok x s->0<=s.ch->s.ch+s.all.length<=4611686018427387904->∃ k:Nat,k<=s.all.length/\(lO x n s).ch=s.ch+k/\(k=0->lO x n s=s)
 | 0,s,_,_,_=>⟨0,ae2 _,by simp[lO],λ_=>rfl⟩
 | n+1,s,h,h0,h1=>by
  unfold lO;by_cases hb:Qu.eD s.q=true
  ·rw[if_pos hb]
   have hlt:=h.Z3 hb;have hc:(eK x s).ch=s.ch+1:=by rw[BQ,ly h0 (by omega)]
   obtain⟨k,hk,e,_⟩:=Ok.RA n (h.one hb).1 (by omega) (by omega);exact⟨k+1,by omega,by rw[e,hc];push_cast;omega,λe=>by omega⟩
  ·rw[if_neg hb]
   exact⟨0,ae2 _,by simp,λ_=>rfl⟩
theorem Ok.Yw (h:Ok x s)(a:jv)(hu:a.k % 9<=7)(h0:0<=s.ch)(h1:s.ch<=4611686018427380000)(hq:s.all.length<=900):∃ k:Nat,k<=901/\(zN x s a).ch=s.ch+k/\(k=0->zN x s a=s):=by
 have ht:tick s.ch=s.ch+1:=ly h0 (by omega);have hst:∃ k:Nat,k<=901/\s.ch=s.ch+k/\(k=0->s=s):=⟨0,by omega,by simp,λ_=>rfl⟩
 have L8:∀ {t:Hs},t.ch=tick s.ch->∃ k:Nat,k<=901/\t.ch=s.ch+k/\(k=0->t=s):=λe=>⟨1,by omega,by rw[e,ht];rfl,λe=>by omega⟩
 unfold zN;split
 ·unfold lZ
  split
  ·exact L8 rfl
  ·exact hst
 split
 ·unfold rL
  split
  ·exact L8 rfl
  ·exact hst
 split
 ·unfold kn
  split
  ·exact L8 rfl
  ·exact hst
 split
 ·obtain⟨k,h2,h3,h4⟩:=Ok.RA a.n.toNat h h0 (by omega)
  exact⟨k,by omega,h3,h4⟩
 split
 ·by_cases he:kh x s a.c=0
  ·obtain⟨i,z,l,_,_,_,_,_,_,e⟩:=Yv h he
   refine L8 ?_;rw[e]
  ·have e:nV x s a.c=s:=by unfold nV;rw[if_neg he]
   rw[e];exact hst
 split
 ·rename_i e
  have:a.k % 9=8:=by simpa using e
  omega
 ·unfold qb
  split
  ·exact L8 rfl
  ·exact hst
theorem Ok.RB (h:Ok x s){n:Int}(ht:aS s.cs n=true):(nV x s n).r=s.r/\(nV x s n).k=s.k/\(nV x s n).q=s.q++s.outs n/\(nV x s n).ch=tick s.ch:=by obtain⟨i,v,l,rfl,hi,hv,UA,UC,ho,e⟩:=Yv h (Rx h ht);rw[e,ho];exact⟨rfl,rfl,rfl,rfl⟩
end
end Hp
end
section
namespace Gr
open Go.ChangeShapes Go.WideShapes Go.ChangeAt Go.WideMaps Go.WideElems Go.RowKit Go.Deep

end Gr
end
section
namespace Tr
open Go.RowKit Go.Maps Gr
section
variable {G:Gp}{k gray:List Int}
theorem EX {z:Int}:z ∈ nL G k gray ↔ z ∈ gray/\0<jM G k gray z:=by unfold nL;rw[aew];simp
theorem K_ {z:Int}(h:z ∈ ids G):∃ (i:Nat) (x:Nd),G.nodes[i]?=some x/\x.id=z:=by obtain⟨i,hi⟩:=List.mem_iff_getElem?.1 h;obtain⟨x,hx,e⟩:=kN hi;exact⟨i,x,hx,e⟩
end
end Tr
end
section
namespace Hp
open Go.RowKit
section
variable {x:Sh}{s t:Hs}{v:List Int}
theorem EY {G:Gr.Gp}{a b:List Int}(hs:∀ y ∈ Gr.ids G,y ∈ a->y ∈ b){z:Int}(hz:Gr.vS G a z):Gr.vS G b z:=λS h1 h2=>hz S (λy hy hf=>h1 y hy (hs y hy hf)) h2
def wk (s:Hs)(K:List Int):Hs:={ s with k:=K }
theorem aa8 (s:Hs)(K:List Int)(n:Int):qb x (wk s K) n=wk (qb x s n) K/\(qb x s n).k=s.k:=by
 unfold qb;by_cases he:nU x s n=0
 ·have wF:nU x (wk s K) n=0:=he
  rw[if_pos he,if_pos wF];exact⟨rfl,rfl⟩
 ·have wF:¬ nU x (wk s K) n=0:=he
  rw[if_neg he,if_neg wF];exact⟨rfl,rfl⟩
theorem aa9 (s:Hs)(K:List Int)(n:Int):lZ x (wk s K) n=wk (lZ x s n) K/\(lZ x s n).k=s.k:=by
 unfold lZ;by_cases he:kh x s n=0/\Rt.hasB s.r n=false/\yO s n=0
 ·have wF:kh x (wk s K) n=0/\Rt.hasB (wk s K).r n=false/\yO (wk s K) n=0:=he
  rw[if_pos he,if_pos wF];exact⟨rfl,rfl⟩
 ·have wF:¬ (kh x (wk s K) n=0/\Rt.hasB (wk s K).r n=false/\yO (wk s K) n=0):=he
  rw[if_neg he,if_neg wF];exact⟨rfl,rfl⟩
theorem abb (s:Hs)(K:List Int)(n:Int):rL x (wk s K) n=wk (rL x s n) K/\(rL x s n).k=s.k:=by
 unfold rL;by_cases he:tC x s n=0
 ·have wF:tC x (wk s K) n=0:=he
  rw[if_pos he,if_pos wF];exact⟨rfl,rfl⟩
 ·have wF:¬ tC x (wk s K) n=0:=he
  rw[if_neg he,if_neg wF];exact⟨rfl,rfl⟩
theorem abd (s:Hs)(K:List Int)(n k:Int)(y:Vl):kn x (wk s K) n k y=wk (kn x s n k y) K/\(kn x s n k y).k=s.k:=by
 unfold kn;by_cases he:kj x s n k y=0
 ·have wF:kj x (wk s K) n k y=0:=he
  rw[if_pos he,if_pos wF];exact⟨rfl,rfl⟩
 ·have wF:¬ kj x (wk s K) n k y=0:=he
  rw[if_neg he,if_neg wF];exact⟨rfl,rfl⟩
def cM (s:Hs):List Int:=(Gr.ids s.gr).map (mQ s.ct)
end
structure Cs where
 cu:List Int
 ge:List Int
 is:Bool
 ch:Int
 un:Int
 wh:List Int
 fr:List Int
def Cs.init:Cs:=⟨[],[],false,0,0,[],[]⟩
def bK (c:Cs)(s:Hs):Bool:=!c.is || !(c.ch == s.ch)
def BR (c:Cs)(s:Hs):Cs:=⟨c.cu,c.ge,true,s.ch,3 * (Tr.j4 s.gr s.k).length - (Tr.dR s.gr (cM s) s.k).length,Tr.dR s.gr (cM s) s.k,s.k⟩
def da (c:Cs)(s:Hs):Cs:=if bK c s=true then BR c s else c
def NF (c:Cs)(s:Hs):Cs:=⟨c.wh,c.wh.map (bL s.cs),false,c.ch,0,c.wh,c.fr⟩
def vB (s:Hs)(p:Int × Int):Bool:=aS s.cs p.1 && bL s.cs p.1 == p.2
def kq (c:Cs)(s:Hs):Bool:=!c.cu.isEmpty || (Qu.eD s.q || !(bK c s && s.k.isEmpty))
def kr (c:Cs)(s:Hs):Int:=if c.cu.isEmpty=true then (if Qu.eD s.q=true then (if sP s=true then 1 else 0) else 0) else 0
def eP (c:Cs)(s:Hs):Cs :=
 if c.cu.isEmpty=true then (if Qu.eD s.q=true then c else if (bK c s && s.k.isEmpty)=true then { c with is:=false } else
  if (da c s).un - 1=0 then NF (da c s) s else { da c s with un:=(da c s).un - 1 })
 else { c with cu:=c.cu.tail,ge:=c.ge.tail }
def eE (x:Sh)(c:Cs)(s:Hs):Hs :=
 if c.cu.isEmpty=true then (if Qu.eD s.q=true then eK x s else if (bK c s && s.k.isEmpty)=true then s else
  if (da c s).un - 1=0 then uN s (da c s).fr else s)
 else if vB s (c.cu.headD 0,c.ge.headD 0)=true then nV x s (c.cu.headD 0) else s
def tM (x:Sh):Nat->Cs->Hs->Cs
 | 0,c,_=>c
 | n+1,c,s=>if kq c s=true then tM x n (eP c s) (eE x c s) else eP c s
def rT (x:Sh):Nat->Cs->Hs->Hs
 | 0,_,s=>s
 | n+1,c,s=>if kq c s=true then rT x n (eP c s) (eE x c s) else s
def pQ (x:Sh):Nat->Cs->Hs->Int
 | 0,_,_=>0
 | n+1,c,s=>if kq c s=true then kr c s+pQ x n (eP c s) (eE x c s) else 0
section
variable {x:Sh}{c:Cs}{s t:Hs}
inductive Kind (x:Sh) (c:Cs) (s:Hs):Cs->Hs->Int->Prop
 | cut (n g:Int) (cs gs:List Int) (hc:c.cu=n::cs) (hg:c.ge=g::gs) (hv:aS s.cs n=true) (hn:bL s.cs n=g) (hr:¬ Gr.vS s.gr s.r n):Kind x c s { c with cu:=cs,ge:=gs } (nV x s n) 0
 | skip (n g:Int) (cs gs:List Int) (hc:c.cu=n::cs) (hg:c.ge=g::gs) (hv:vB s (n,g)=false):Kind x c s { c with cu:=cs,ge:=gs } s 0
 | drain (hc:c.cu=[]) (hb:Qu.eD s.q=true):Kind x c s c (eK x s) (if sP s=true then 1 else 0)
 | round (hc:c.cu=[]) (hb:s.q=[]) (d:Cs) (hd:bK c s=true/\s.k≠[]/\d=BR c s\/bK c s=false/\d=c) (hu:d.un - 1≠0):Kind x c s { d with un:=d.un - 1 } s 0
 | last (hc:c.cu=[]) (hb:s.q=[]) (d:Cs) (hd:bK c s=true/\s.k≠[]/\d=BR c s\/bK c s=false/\d=c) (hu:d.un - 1=0):Kind x c s (NF d s) (uN s d.fr) 0
theorem pop_nil {q:List Int}(h:Qu.eD q=false):q=[]:=by
 cases q with
 | nil=>rfl
 | cons c r=>cases h
theorem Ok.Z4 (h:Ok x s):(Gr.ids s.gr).length<=x.n:=by rw[qG,<- h.l1];exact kK _ _
end

section
variable {x:Sh}{c:Cs}{s t:Hs}
theorem V2 (h:Ok x s){z:Int}(hz:aS s.cs z=true):(s.outs z).length<=4:=by obtain⟨i,y,rfl,hi,_⟩:=h.jG hz;obtain⟨l,hv,hl,_,ho⟩:=h.row hi;have:=(Sh.gm h.may i).2.1;rw[ho];unfold ptrs;rw[List.length_map];have:=List.length_filter_le (λy:Vl=>y.k == 2) l;omega
end
structure Rn where
 ch:Int
 k:List Int
 g:List Int
 gl:Nat
 b:List Int
 bl:Nat
 wg:Nat
 f:Int->Int
 gn:Int->Int
def m_ (l:List Int)(o:Int):List Int:=if Rt.hasB l o=true then l else l++[o]
def dW (l outs:List Int):List Int:=outs.foldl m_ l
def fU (g:List Int)(f:Int->Int):List Int:=g.filter (λz=>decide (0<wrap64 (f z)))
def Rn.new (s:Hs):Rn:=⟨s.ch,s.k,s.k,0,[],0,0,λ_=>0,λ_=>0⟩
def wf (s:Hs)(f:Int->Int)(c:Int):Int->Int:=λz=>f z+(if z=c then mQ s.ct c else 0) - ((s.outs c).count z:Int)
def uV (s:Hs)(r:Rn):Rn:={ r with g:=dW r.g (s.outs (r.g.getD r.gl 0)),gl:=r.gl+1 }
def yR (s:Hs)(r:Rn):Rn :={ r with wg:=r.wg+1,f:=wf s r.f (r.g.getD r.wg 0),gn:=λz=>if z=r.g.getD r.wg 0 then bL s.cs (r.g.getD r.wg 0) else r.gn z,b:=if r.wg+1=r.g.length then fU r.g (wf s r.f (r.g.getD r.wg 0)) else r.b }
def EZ (s:Hs)(r:Rn):Rn:={ r with b:=dW r.b (s.outs (r.b.getD r.bl 0)),bl:=r.bl+1 }
def eF (s:Hs)(r:Rn):Rn:=if r.gl<r.g.length then uV s r else if r.wg<r.g.length then yR s r else EZ s r
def gC (r:Rn):Bool:=decide (r.gl<r.g.length) || (decide (r.wg<r.g.length) || decide (r.bl<r.b.length))
def uW (r:Rn):Nat:=r.gl+r.wg+r.bl
def nh (s:Hs)(k:List Int):Nat:=2 * (Gr.bp s.gr k).length+(Gr.bp s.gr (Tr.nL s.gr (cM s) (Gr.bp s.gr k))).length
def jw (r:Rn):List Int:=(r.g.mergeSort (λx y=>decide (x<=y))).filter (λz=>!Rt.hasB r.b z)
theorem RD {l:List Int}{o z:Int}:z ∈ m_ l o ↔ z ∈ l\/z=o:=by
 unfold m_;split
 ·rename_i h
  exact⟨Or.inl,λh'=>h'.elim id (λe=>e ▸ Rt.cj.1 h)⟩
 ·simp
theorem tN {z:Int}:∀ (outs l:List Int),z ∈ dW l outs ↔ z ∈ l\/z ∈ outs
 | [],l=>by simp[dW]
 | o::outs,l=>by
  have:=tN (z:=z) outs (m_ l o);unfold dW at *;rw[List.foldl_cons,this,RD,List.mem_cons,or_assoc]
theorem RE (l:List Int)(o:Int):∃ e,m_ l o=l++e:=by
 unfold m_;split
 ·exact⟨[],by simp⟩
 ·exact⟨_,rfl⟩
theorem tO:∀ (outs l:List Int),∃ e,dW l outs=l++e
 | [],l=>⟨[],by simp[dW]⟩
 | o::outs,l=>by
  obtain⟨e1,h1⟩:=RE l o;obtain⟨e2,h2⟩:=tO outs (m_ l o);refine⟨e1++e2,?_⟩;unfold dW at *;rw[List.foldl_cons,h2,h1,aeA]
theorem I1 {l:List Int}(h:l.Nodup)(o:Int):(m_ l o).Nodup:=by
 unfold m_;split
 ·exact h
 ·rename_i hn
  rw[afL];refine⟨h,by simp,λa ha b hb=>?_⟩;obtain rfl:b=o:=by simpa using hb
  rintro rfl;exact hn (Rt.cj.2 ha)
theorem oN:∀ (outs:List Int) {l:List Int},l.Nodup->(dW l outs).Nodup
 | [],_,h=>h
 | o::outs,l,h=>by
  have:=oN outs (I1 h o);exact this
theorem tP (outs l:List Int):l.length<=(dW l outs).length:=by obtain⟨e,h⟩:=tO outs l;rw[h,aeu];omega
theorem xG (outs l:List Int){n:Nat}(h:n<=l.length):(dW l outs).take n=l.take n:=by obtain⟨e,he⟩:=tO outs l;rw[he,List.take_append_of_le_length h]
theorem getD_at {l:List Int}{i:Nat}(h:i<l.length):l[i]?=some (l.getD i 0):=by rw[List.getD_eq_getElem?_getD,aD h];rfl
theorem take_at {l:List Int}{i:Nat}(h:i<l.length):l.take (i+1)=l.take i++[l.getD i 0]:=Tr.take_snoc (getD_at h)
structure RI (s:Hs)(r:Rn):Prop where
 kl:∀ z ∈ r.k,aS s.cs z=true
 ne:r.k≠[]
 sub:∀ z ∈ r.k,z ∈ r.g
 nd:r.g.Nodup
 rch:∀ z ∈ r.g,Gr.vS s.gr r.k z
 cl:∀ z ∈ r.g.take r.gl,∀ o ∈ s.outs z,o ∈ r.g
 gl:r.gl<=r.g.length
 w0:r.gl<r.g.length->r.wg=0
 wl:r.wg<=r.g.length
 f:∀ z,r.f z=(if z ∈ r.g.take r.wg then mQ s.ct z else 0) - (((r.g.take r.wg).flatMap s.outs).count z:Int)
 gn:∀ z ∈ r.g.take r.wg,r.gn z=bL s.cs z
 b0:r.wg<r.g.length->r.b=[]/\r.bl=0
 bl:r.bl<=r.b.length
 bnd:r.b.Nodup
 V3:r.wg=r.g.length->∀ z ∈ fU r.g r.f,z ∈ r.b
 I2:∀ z ∈ r.b,Gr.vS s.gr (fU r.g r.f) z
 bcl:∀ z ∈ r.b.take r.bl,∀ o ∈ s.outs z,o ∈ r.b
section
variable {x:Sh}{s t:Hs}{r:Rn}
theorem RI.pos (h:RI s r):0<r.g.length:=by obtain⟨z,hz⟩:=List.exists_mem_of_ne_nil _ h.ne;exact List.length_pos_of_mem (h.sub z hz)
theorem RI.live (h:RI s r)(aM:Ok x s){z:Int}(hz:z ∈ r.g):aS s.cs z=true:=aM.xF (h.rch z hz)
theorem RI.Yx (h:RI s r)(aM:Ok x s){z:Int}(hz:z ∈ r.b):aS s.cs z=true:=aM.xF (h.I2 z hz)
theorem Ok.E3 (aM:Ok x s){fr:List Int}{z o:Int}(hz:Gr.vS s.gr fr z)(ho:o ∈ s.outs z):Gr.vS s.gr fr o :=Gr.vS.step (n:=⟨z,s.outs z⟩) (pN.2 ⟨aM.xF hz,rfl⟩) hz ho
theorem RI.new (aM:Ok x s)(hk:s.k≠[]):RI s (Rn.new s) where
 kl:=aM.qk
 ne:=hk
 sub:=λ_ h=>h
 nd:=Gr.js aM.nW.1
 rch:=λz hz=>Gr.vS.start (fF.2 (aM.qk z hz)) hz
 cl:=λz hz=>by simp[Rn.new] at hz
 gl:=ae2 _
 w0:=λ_=>rfl
 wl:=ae2 _
 f:=λz=>by simp[Rn.new]
 gn:=λz hz=>by simp[Rn.new] at hz
 b0:=λ_=>⟨rfl,rfl⟩
 bl:=ae2 _
 bnd:=by simp[Rn.new]
 V3:=λe=>by
  have h0:(0:Nat)=s.k.length:=e;exact absurd (List.eq_nil_of_length_eq_zero h0.symm) hk
 I2:=λz hz=>by simp[Rn.new] at hz
 bcl:=λz hz=>by simp[Rn.new] at hz
theorem RI.mark (h:RI s r)(aM:Ok x s)(hl:r.gl<r.g.length):RI s (uV s r):=by
 have hw:=h.w0 hl;have hp:=h.pos;obtain⟨hb,ic⟩:=h.b0 (by omega);have hc:r.g.getD r.gl 0 ∈ r.g:=aE (getD_at hl);have hm:∀ z,z ∈ (uV s r).g ↔ z ∈ r.g\/z ∈ s.outs (r.g.getD r.gl 0):=λz=>tN _ _
 have hlen:=tP (s.outs (r.g.getD r.gl 0)) r.g;refine⟨h.kl,h.ne,λz hz=>(hm z).2 (Or.inl (h.sub z hz)),oN _ h.nd,λz hz=>?_,λz hz o ho=>?_,?_,λ_=>hw,?_,λz=>?_,λz hz=>?_,λ_=>⟨hb,ic⟩,?_,h.bnd,λe=>?_,λz hz=>?_,λz hz=>?_⟩
 ·rcases (hm z).1 hz with hz | hz
  ·exact h.rch z hz
  ·exact aM.E3 (h.rch _ hc) hz
 ·have e:(uV s r).g.take (uV s r).gl=r.g.take r.gl++[r.g.getD r.gl 0]:=by
   show (dW r.g _).take (r.gl+1)=_;rw[xG _ _ (by omega),take_at hl]
  rw[e] at hz;rcases aep.1 hz with hz | hz
  ·exact(hm o).2 (Or.inl (h.cl z hz o ho))
  ·obtain rfl:z=_:=by simpa using hz
   exact(hm o).2 (Or.inr ho)
 ·show r.gl+1<=(dW r.g _).length
  omega
 ·show r.wg<=(dW r.g _).length
  omega
 ·show r.f z=(if z ∈ (dW r.g (s.outs (r.g.getD r.gl 0))).take r.wg then mQ s.ct z else 0) - ((((dW r.g (s.outs (r.g.getD r.gl 0))).take r.wg).flatMap s.outs).count z:Int)
  have:=h.f z;rw[hw] at this ⊢;simpa using this
 ·have ku:z ∈ (dW r.g _).take r.wg:=hz
  rw[hw] at ku;simp at ku
 ·show r.bl<=r.b.length
  exact h.bl
 ·have e':r.wg=(dW r.g (s.outs (r.g.getD r.gl 0))).length:=e
  omega
 ·have ku:z ∈ r.b:=hz
  rw[hb] at ku;cases ku
 ·have ku:z ∈ r.b.take r.bl:=hz
  rw[hb] at ku;simp at ku
theorem abe (h:RI s r)(hl:r.wg<r.g.length)(z:Int) :
  wf s r.f (r.g.getD r.wg 0) z=(if z ∈ r.g.take (r.wg+1) then mQ s.ct z else 0) - (((r.g.take (r.wg+1)).flatMap s.outs).count z:Int):=by
 have hn:r.g.getD r.wg 0 ∉ r.g.take r.wg:=by intro hm;have j0:(r.g.take (r.wg+1)).Nodup:=h.nd.sublist (List.take_sublist _ _);rw[take_at hl,afL] at j0;exact j0.2.2 _ hm _ (by simp) rfl
 unfold wf;rw[h.f z,take_at hl,List.flatMap_append,List.count_append];by_cases e:z=r.g.getD r.wg 0
 ·subst e
  rw[if_pos rfl,if_neg hn,if_pos (by simp)];simp;omega
 ·rw[if_neg e]
  by_cases hm:z ∈ r.g.take r.wg
  ·rw[if_pos hm,if_pos (by simp[hm])]
   simp;omega
  ·rw[if_neg hm,if_neg (by
    intro C6;rcases aep.1 C6 with h' | h'
    ·exact hm h'
    ·exact e (by simpa using h'))]
   simp;omega
theorem RI.wgh (h:RI s r)(aM:Ok x s)(wG:¬ r.gl<r.g.length)(hl:r.wg<r.g.length):RI s (yR s r):=by
 obtain⟨hb,ic⟩:=h.b0 hl;have hbd:∀ e:r.wg+1≠r.g.length,(yR s r).b=[]:=λe=>by
  show (if _ then _ else _)=_;rw[if_neg e,hb]
 have XH:∀ e:r.wg+1=r.g.length,(yR s r).b=fU r.g (yR s r).f:=λe=>by
  show (if _ then _ else _)=_;rw[if_pos e];rfl
 refine⟨h.kl,h.ne,h.sub,h.nd,h.rch,h.cl,h.gl,λe=>absurd e wG,hl,λz=>abe h hl z,λz hz=>?_,λe=>⟨hbd (by have:r.wg+1<r.g.length:=e;omega),ic⟩,?_,?_,λe z hz=>?_,λz hz=>?_,λz hz=>?_⟩
 ·have ku:z ∈ r.g.take (r.wg+1):=hz
  show (if z=_ then _ else _)=_;by_cases e:z=r.g.getD r.wg 0
  ·rw[if_pos e,<- e]
  ·rw[if_neg e]
   rw[take_at hl] at ku;rcases aep.1 ku with h' | h'
   ·exact h.gn z h'
   ·exact absurd (by simpa using h') e
 ·show r.bl<=_
  rw[ic];exact ae2 _
 ·by_cases e:r.wg+1=r.g.length
  ·rw[XH e]
   exact h.nd.filter _
  ·rw[hbd e]
   exact List.nodup_nil
 ·rw[XH e]
  exact hz
 ·by_cases e:r.wg+1=r.g.length
  ·rw[XH e] at hz
   exact Gr.vS.start (fF.2 (h.live aM (aew.1 hz).1)) hz
  ·rw[hbd e] at hz
   cases hz
 ·have ku:z ∈ (yR s r).b.take r.bl:=hz
  rw[ic] at ku;simp at ku
theorem RI.blk (h:RI s r)(aM:Ok x s)(_:¬ r.gl<r.g.length)(hwg:¬ r.wg<r.g.length)(hl:r.bl<r.b.length):RI s (EZ s r):=by
 have hc:r.b.getD r.bl 0 ∈ r.b:=aE (getD_at hl);have hm:∀ z,z ∈ (EZ s r).b ↔ z ∈ r.b\/z ∈ s.outs (r.b.getD r.bl 0):=λz=>tN _ _
 have hlen:=tP (s.outs (r.b.getD r.bl 0)) r.b;refine⟨h.kl,h.ne,h.sub,h.nd,h.rch,h.cl,h.gl,h.w0,h.wl,h.f,h.gn,λe=>absurd e hwg,?_,oN _ h.bnd,λe z hz=>(hm z).2 (Or.inl (h.V3 e z hz)),λz hz=>?_,λz hz o ho=>?_⟩
 ·show r.bl+1<=(dW r.b _).length
  omega
 ·rcases (hm z).1 hz with hz | hz
  ·exact h.I2 z hz
  ·exact aM.E3 (h.I2 _ hc) hz
 ·have e:(EZ s r).b.take (EZ s r).bl=r.b.take r.bl++[r.b.getD r.bl 0]:=by
   show (dW r.b _).take (r.bl+1)=_;rw[xG _ _ (by omega),take_at hl]
  rw[e] at hz;rcases aep.1 hz with hz | hz
  ·exact(hm o).2 (Or.inl (h.bcl z hz o ho))
  ·obtain rfl:z=_:=by simpa using hz
   exact(hm o).2 (Or.inr ho)
theorem RI.step (h:RI s r)(aM:Ok x s)(hm:gC r=true):RI s (eF s r)/\uW (eF s r)=uW r+1:=by
 unfold eF;by_cases h1:r.gl<r.g.length
 ·rw[if_pos h1]
  exact⟨h.mark aM h1,by show r.gl+1+r.wg+r.bl=r.gl+r.wg+r.bl+1;omega⟩
 ·rw[if_neg h1]
  by_cases h2:r.wg<r.g.length
  ·rw[if_pos h2]
   exact⟨h.wgh aM h1 h2,by show r.gl+(r.wg+1)+r.bl=r.gl+r.wg+r.bl+1;omega⟩
  ·rw[if_neg h2]
   have h3:r.bl<r.b.length:=by unfold gC at hm;simpa[h1,h2] using hm
   exact⟨h.blk aM h1 h2 h3,by show r.gl+r.wg+(r.bl+1)=r.gl+r.wg+r.bl+1;omega⟩
theorem NG (aM:Ok x s){a b:List Int}(h:∀ z,z ∈ a ↔ z ∈ b):Gr.bp s.gr a=Gr.bp s.gr b :=
 Gr.Bj (Gr.iK aM.ri _) (Gr.iK aM.ri _) (λz=>by
  rw[Gr.iL aM.ri,Gr.iL aM.ri];exact⟨EY (λy _ hy=>(h y).1 hy),EY (λy _ hy=>(h y).2 hy)⟩)
theorem zO (aM:Ok x s){l fr:List Int}(h1:∀ z ∈ fr,z ∈ l)(h2:∀ z ∈ l,Gr.vS s.gr fr z)(h3:∀ z ∈ l,∀ o ∈ s.outs z,o ∈ l)(z:Int):z ∈ l ↔ z ∈ Gr.bp s.gr fr:=by rw[Gr.iL aM.ri];refine⟨h2 z,λhz=>hz (λy=>y ∈ l) (λy _ hf=>h1 y hf) (λn hn hS o ho=>?_)⟩;obtain⟨_,e⟩:=pN.1 hn;rw[e] at ho;exact h3 _ hS o ho
theorem RI.vZ (h:RI s r)(aM:Ok x s)(e:r.gl=r.g.length)(z:Int):z ∈ r.g ↔ z ∈ Gr.bp s.gr r.k :=zO aM h.sub h.rch (λz hz=>h.cl z (by rw[e,aeF];exact hz)) z
theorem RI.RF (h:RI s r)(aM:Ok x s):r.g.length<=(Gr.bp s.gr r.k).length/\(r.gl=r.g.length->r.g.length=(Gr.bp s.gr r.k).length):=by refine⟨List.Nodup.length_le_of_subset h.nd (λz hz=>(Gr.iL aM.ri).2 (h.rch z hz)),λe=>?_⟩;exact List.Perm.length_eq ((afs h.nd (Gr.js (Gr.iK aM.ri _))).2 (h.vZ aM e))
theorem RI.Lc (h:RI s r)(aM:Ok x s)(e:r.gl=r.g.length)(ew:r.wg=r.g.length){z:Int}(hz:z ∈ r.g):wrap64 (r.f z)=Tr.jM s.gr (cM s) (Gr.bp s.gr r.k) z:=by
 obtain⟨i,y,hy,rfl⟩:=Tr.K_ (fF.2 (h.live aM hz));have hc:(cM s)[i]?=some (mQ s.ct y.id):=by unfold cM;rw[List.getElem?_map,Gr.oH hy];rfl
 unfold Tr.jM;rw[Tr.EB aM.ri hy hc,h.f,ew,aeF,if_pos hz]
 congr 2
 have hG:∀ l:List Gr.Nd,(∀ n ∈ l,n.out=s.outs n.id)->l.flatMap Gr.Nd.out=(l.map Gr.Nd.id).flatMap s.outs:=by
  intro l
  induction l with
  | nil=>intro _;rfl
  | cons n l ih =>
   intro hl;rw[afk,List.map_cons,afk,ih (λm hm=>hl m (List.mem_cons_of_mem _ hm)),hl n (List.mem_cons_self ..)]
 have hp:r.g.Perm ((s.gr.nodes.filter (λn=>Rt.hasB (Gr.bp s.gr r.k) n.id)).map Gr.Nd.id):=by
  refine(afs h.nd ?_).2 (λz=>?_)
  ·exact(Gr.js aM.ri.inc).sublist ((List.filter_sublist).map _)
  ·rw[h.vZ aM e,ae6]
   constructor
   ·intro hz
    obtain⟨j,n,hn,rfl⟩:=Tr.K_ (Gr.pL hz);exact⟨n,aew.2 ⟨aE hn,Rt.cj.2 hz⟩,rfl⟩
   ·rintro⟨n,hn,rfl⟩
    exact Rt.cj.1 (aew.1 hn).2
 unfold Tr.ptrs;rw[hG _ (λn hn=>(pN.1 (aew.1 hn).1).2)];exact congrArg Int.ofNat ((hp.flatMap_right s.outs).count_eq y.id)
theorem RI.V4 (h:RI s r)(aM:Ok x s)(e:r.gl=r.g.length)(ew:r.wg=r.g.length)(z:Int):z ∈ fU r.g r.f ↔ z ∈ Tr.nL s.gr (cM s) (Gr.bp s.gr r.k):=by
 rw[Tr.EX];unfold fU;rw[aew,<- h.vZ aM e];constructor
 ·rintro⟨h1,h2⟩
  exact⟨h1,by rw[<- h.Lc aM e ew h1];simpa using h2⟩
 ·rintro⟨h1,h2⟩
  exact⟨h1,by rw[<- h.Lc aM e ew h1] at h2;simpa using h2⟩
theorem RI.zP (h:RI s r)(aM:Ok x s)(e:r.gl=r.g.length)(ew:r.wg=r.g.length) :
  r.b.length<=(Gr.bp s.gr (Tr.nL s.gr (cM s) (Gr.bp s.gr r.k))).length/\(r.bl=r.b.length->r.b.length=(Gr.bp s.gr (Tr.nL s.gr (cM s) (Gr.bp s.gr r.k))).length/\∀ z,z ∈ r.b ↔ z ∈ Gr.bp s.gr (Tr.nL s.gr (cM s) (Gr.bp s.gr r.k))):=by
 rw[<- NG aM (h.V4 aM e ew)];refine⟨List.Nodup.length_le_of_subset h.bnd (λz hz=>(Gr.iL aM.ri).2 (h.I2 z hz)),λeb=>?_⟩;have hm:=zO aM (h.V3 ew) h.I2 (λz hz=>h.bcl z (by rw[eb,aeF];exact hz));exact⟨List.Perm.length_eq ((afs h.bnd (Gr.js (Gr.iK aM.ri _))).2 hm),hm⟩
theorem RI.more (h:RI s r)(aM:Ok x s):if gC r=true then uW r<nh s r.k else uW r=nh s r.k:=by
 obtain⟨g1,g2⟩:=h.RF aM;unfold gC uW nh;have wG:=h.gl;have hwl:=h.wl;have ic:=h.bl;by_cases h1:r.gl<r.g.length
 ·have hw:=h.w0 h1
  obtain⟨_,hb⟩:=h.b0 (by omega);rw[if_pos (by simp[h1])];omega
 ·have e:r.gl=r.g.length:=by omega
  have g3:=g2 e;by_cases h2:r.wg<r.g.length
  ·obtain⟨_,hb⟩:=h.b0 h2
   rw[if_pos (by simp[h2])];omega
  ·have ew:r.wg=r.g.length:=by omega
   obtain⟨b1,b2⟩:=h.zP aM e ew;by_cases h3:r.bl<r.b.length
   ·rw[if_pos (by simp[h3])]
    omega
   ·rw[if_neg (by simp[h1,h2,h3])]
    have b3:=(b2 (by omega)).1;omega
theorem V5 (h:gC r=false)(hi:RI s r):r.gl=r.g.length/\r.wg=r.g.length/\r.bl=r.b.length:=by unfold gC at h;simp only[Bool.or_eq_false_iff,decide_eq_false_iff_not] at h;have:=hi.gl;have:=hi.wl;have:=hi.bl;omega
theorem I3 {l:List Int}(h:l.Nodup):(l.mergeSort (λx y=>decide (x<=y))).Pairwise (·<·):=by have h1:=List.pairwise_mergeSort (le:=λx y:Int=>decide (x<=y)) (λa b c hab hbc=>by simp at *;omega) (λa b=>by simp;omega) l;have h2:(l.mergeSort (λx y=>decide (x<=y))).Nodup:=(List.mergeSort_perm l _).nodup_iff.2 h;refine List.Pairwise.imp₂ ?_ h1 h2;intro a b hab hne;simp at hab;omega
theorem RI.RG (h:RI s r)(aM:Ok x s)(hm:gC r=false):jw r=Tr.kP s.gr (cM s) (Gr.bp s.gr r.k)/\∀ z ∈ jw r,r.gn z=bL s.cs z:=by
 obtain⟨e,ew,eb⟩:=V5 hm h;have hgm:=h.vZ aM e;have hbm:=((h.zP aM e ew).2 eb).2;have hs:r.g.mergeSort (λx y=>decide (x<=y))=Gr.bp s.gr r.k :=Gr.Bj (I3 h.nd) (Gr.iK aM.ri _) (λz=>by rw[agc,hgm])
 have hw:jw r=Tr.kP s.gr (cM s) (Gr.bp s.gr r.k):=by
  unfold jw Tr.kP;rw[hs];refine List.filter_congr (λz _=>?_)
  congr 1
  rw[Bool.eq_iff_iff,Rt.cj,Rt.cj,hbm]
 refine⟨hw,λz hz=>h.gn z ?_⟩;rw[ew,aeF];unfold jw at hz;rw[aew,agc] at hz;exact hz.1
theorem Ok.trial (aM:Ok x s){k:List Int}(hk:∀ z ∈ k,aS s.cs z=true):Tr.gB s.gr (cM s) k=true/\Tr.j4 s.gr k=Gr.bp s.gr k:=by
 have hw:Gr.aY k (Gr.ids s.gr)=true:=Gr.oG.2 (λz hz=>fF.2 (hk z hz));constructor
 ·unfold Tr.gB
  rw[aM.right,hw];have e1:(cM s).length=s.gr.nodes.length:=by simp[cM,Gr.ids]
  have e2:Tr.US (cM s)=true:=by unfold Tr.US cM;rw[List.all_eq_true];intro c hc;obtain⟨z,hz,rfl⟩:=ae6.1 hc;obtain⟨i,y,rfl,hi,_⟩:=aM.jG (fF.1 hz);rw[aM.ctz hi];simp
  simp[e1,e2]
 ·unfold Tr.j4 Gr.gA
  rw[if_pos hw,if_pos aM.right]
theorem uY (p:Int->Bool):∀ l:List Int,l.length=(l.filter p).length+(l.filter (λz=>!p z)).length
 | []=>rfl
 | z::l=>by
  have ih:=uY p l;rw[afu,afu];cases p z <;> simp <;> omega
theorem Ok.units (aM:Ok x s){k:List Int}(hk:∀ z ∈ k,aS s.cs z=true) :
  ((nh s k:Nat):Int)=3 * ((Tr.j4 s.gr k).length:Int) - ((Tr.dR s.gr (cM s) k).length:Int)/\Tr.dR s.gr (cM s) k=Tr.kP s.gr (cM s) (Gr.bp s.gr k):=by
 obtain⟨h1,h2⟩:=aM.trial hk;have hW:Tr.dR s.gr (cM s) k=Tr.kP s.gr (cM s) (Gr.bp s.gr k):=by unfold Tr.dR;rw[if_pos h1]
 refine⟨?_,hW⟩;rw[hW,h2];have key:(Gr.bp s.gr k).length=(Gr.bp s.gr (Tr.nL s.gr (cM s) (Gr.bp s.gr k))).length+(Tr.kP s.gr (cM s) (Gr.bp s.gr k)).length:=by
  generalize hB:Gr.bp s.gr (Tr.nL s.gr (cM s) (Gr.bp s.gr k))=B;unfold Tr.kP;rw[hB];have h3:((Gr.bp s.gr k).filter (λz=>Rt.hasB B z)).Perm B:=by refine(afs ((Gr.js (Gr.iK aM.ri _)).filter _) (by rw[<- hB];exact Gr.js (Gr.iK aM.ri _))).2 (λz=>?_);rw[aew,Rt.cj];refine⟨λh=>h.2,λh=>⟨?_,h⟩⟩;rw[<- hB,Gr.iL aM.ri] at h;rw[Gr.iL aM.ri];exact h (λy=>Gr.vS s.gr k y) (λy hy hf=>(Gr.iL aM.ri).1 (Tr.EX.1 hf).1) (λn hn hS o ho=>Gr.vS.step hn hS ho)
  rw[<- h3.length_eq];exact uY _ _
 unfold nh;omega
end
end Hp
end
section
namespace Hp
section
variable {x:Sh}
theorem RH (c:Cs)(s:Hs):0<=kr c s/\kr c s<=1:=by
 unfold kr
 repeat' split
 all_goals omega
theorem RJ:∀ (n:Nat) (s:Hs),0<=nN x n s/\nN x n s<=n
 | 0,_=>⟨afb _,afb _⟩
 | n+1,s=>by
  unfold nN;have:=RJ n (eK x s);split
  ·split <;> omega
  ·omega
theorem RL:∀ (n:Nat) (c:Cs) (s:Hs),0<=pQ x n c s/\pQ x n c s<=n
 | 0,_,_=>⟨afb _,afb _⟩
 | n+1,c,s=>by
  unfold pQ;have h1:=RL n (eP c s) (eE x c s);have h2:=RH c s;split <;> omega
end
end Hp
end
section
namespace Hp
open Go.RowKit

end Hp
end
end Go.Proofs.YtdhgpmndgcggfaaGreatDoor
