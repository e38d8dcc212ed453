/- Graphs, in p -/
import Derived.Test.YtdhgpmndgcggfaaGreatDoorPE
import Derived.Deep.RegionHeld3
set_option maxRecDepth 100000
set_option maxHeartbeats 3200000
namespace Go.Proofs.YtdhgpmndgcggfaaGreatDoor
open _root_.Go.Proofs.Tryz
open Lib renaming hid → af
open Value renaming int → Z, slice → am
open IntKind renaming i64 → ag
open Go renaming World → av, Value → az
open Go.RowKit renaming Below → ax
open List renaming getElem?_eq_some_iff → aC, getElem?_eq_getElem → aD, mem_of_getElem? → aE, mem_cons → aev, take_length → aeF, replicate → aeK, take_succ_eq_append_getElem → aeU, getElem?_map → aeX, mem_iff_getElem? → ae5, mem_map → ae6, map_cons → afc, pairwise_cons → afe, take_of_length_le → afo, drop_length → afv, all_eq_true → afw, take → af7
open Nat renaming le_refl → aem, le_trans → afa, lt_of_lt_of_le → afJ
open World renaming block_lt_of_cell? → aeo, ownsRow_nil → aeP
open Bool renaming and_eq_true → aez
open Option.some renaming injEq → aeO
section
namespace Gr
open Go.RowKit Go.Maps
structure Nd where
 id:Int
 out:List Int
structure Gp where
 nodes:List Nd
 roots:List Int
def ids (G:Gp):List Int:=G.nodes.map Nd.id
def kM:Int->List Int->Bool
 | _,[]=>true
 | b,x::r=>decide (b<x) && kM x r
def aY (l all:List Int):Bool:=l.all (λx=>Rt.hasB all x)
def aK (G:Gp):Bool:=G.nodes.all (λn=>aY n.out (ids G)) && (kM (-1) (ids G) && kM (-1) G.roots && aY G.roots (ids G))
theorem tA:∀ (l:List Int) (b:Int),kM b l=true ↔ l.Pairwise (·<·)/\∀ z ∈ l,b<z
 | [],b=>by simp[kM]
 | x::r,b=>by
  simp only[kM,aez,decide_eq_true_eq,tA r x,afe,aev];constructor
  ·rintro⟨h1,h2,h3⟩
   exact⟨⟨h3,h2⟩,λz hz=>hz.elim (λe=>e ▸ h1) (λhz=>Int.lt_trans h1 (h3 z hz))⟩
  ·rintro⟨⟨h1,h2⟩,h3⟩
   exact⟨h3 x (.inl rfl),h2,h1⟩
theorem oG {l all:List Int}:aY l all=true ↔ ∀ x ∈ l,x ∈ all:=by simp only[aY,afw,Rt.cj]
structure Ri (G:Gp):Prop where
 inc:(ids G).Pairwise (·<·)
 pos:∀ z ∈ ids G,0<=z
 lX:G.roots.Pairwise (·<·)
 root:∀ z ∈ G.roots,z ∈ ids G
 out:∀ n ∈ G.nodes,∀ o ∈ n.out,o ∈ ids G
theorem zF {G:Gp}(h:aK G=true):Ri G:=by simp only[aK,aez,afw,tA,oG] at h;obtain⟨h1,⟨h2,h3⟩,h4⟩:=h;exact⟨h2.1,λz hz=>by have:=h2.2 z hz;omega,h3.1,h4,h1⟩
theorem Bj:∀ {l l':List Int},l.Pairwise (·<·)->l'.Pairwise (·<·)->(∀ z,z ∈ l ↔ z ∈ l')->l=l':=by intro l l' h h' hm;have hn:l.Nodup:=h.imp (λhab e=>by omega);have hn':l'.Nodup:=h'.imp (λhab e=>by omega);have hp:l.Perm l':=(List.perm_ext_iff_of_nodup hn hn').2 hm;refine List.Perm.eq_of_pairwise (le:=λa b=>a<b) (λa b _ _ h1 h2=>?_) h h' hp;omega
theorem js {l:List Int}(h:l.Pairwise (·<·)):l.Nodup:=h.imp (λhab e=>by omega)
def vS (G:Gp)(fr:List Int)(z:Int):Prop :=∀ S:Int->Prop,(∀ x ∈ ids G,x ∈ fr->S x)->(∀ n ∈ G.nodes,S n.id->∀ o ∈ n.out,S o)->S z
theorem vS.start {G:Gp}{fr:List Int}{z:Int}(h:z ∈ ids G)(hf:z ∈ fr):vS G fr z:=λ_ h1 _=>h1 z h hf
theorem vS.step {G:Gp}{fr:List Int}{n:Nd}(hn:n ∈ G.nodes)(h:vS G fr n.id){o:Int}(ho:o ∈ n.out):vS G fr o :=λS h1 h2=>h2 n hn (h S h1 h2) o ho
theorem vS.node {G:Gp}(hr:Ri G){fr:List Int}{z:Int}(h:vS G fr z):z ∈ ids G :=h (λx=>x ∈ ids G) (λ_ hx _=>hx) (λn hn _ o ho=>hr.out n hn o ho)
def nK:List Bool->List Bool->Prop
 | [],[]=>True
 | a::r,b::s=>(a=true->b=true)/\nK r s
 | _,_=>False
theorem nK.refl:∀ l,nK l l
 | []=>trivial
 | _::r=>⟨id,nK.refl r⟩
theorem nK.trans:∀ {a b c:List Bool},nK a b->nK b c->nK a c
 | [],[],[],_,_=>trivial
 | _::_,_::_,_::_,h,h'=>⟨λe=>h'.1 (h.1 e),h.2.trans h'.2⟩
theorem nK.anti:∀ {a b:List Bool},nK a b->nK b a->a=b
 | [],[],_,_=>rfl
 | x::r,y::s,h,h'=>by
  rw[h.2.anti h'.2]
  congr 1
  cases x <;> cases y <;> simp_all [nK]
theorem nK.length:∀ {a b:List Bool},nK a b->a.length=b.length
 | [],[],_=>rfl
 | _::_,_::_,h=>by simp[h.2.length]
theorem nK.count:∀ {a b:List Bool},nK a b->a.count true<=b.count true/\(a.count true=b.count true->a=b)
 | [],[],_=>by simp
 | x::r,y::s,h=>by
  obtain⟨h1,h2⟩:=h.2.count;have h0:=h.1;cases x <;> cases y <;> simp_all <;> omega
theorem nK.at:∀ {a b:List Bool} {i:Nat},nK a b->a[i]?=some true->b[i]?=some true
 | x::r,y::s,0,h,e=>by simp at e ⊢;exact h.1 e
 | x::r,y::s,i+1,h,e=>by simp at e ⊢;exact h.2.at e
theorem nK.set:∀ (a:List Bool) (k:Nat) (v:Bool),nK a (a.set k (a.getD k false || v))
 | [],_,_=>trivial
 | x::r,0,v=>⟨λe=>by simp[e],nK.refl r⟩
 | x::r,k+1,v=>⟨id,by simpa using nK.set r k v⟩
def Ew (G:Gp)(i:Nat):List Int:=((G.nodes[i]?).map Nd.out).getD []
def QJ (G:Gp)(i:Nat):Int:=((G.nodes[i]?).map Nd.id).getD 0
def upd (G:Gp)(f:List Bool)(i k:Nat):List Bool:=f.set k (f.getD k false || (f.getD i false && Rt.hasB (Ew G i) (QJ G k)))
def lk (G:Gp)(f:List Bool)(i:Nat):Nat->List Bool
 | 0=>f
 | k+1=>upd G (lk G f i k) i k
def iO (G:Gp)(f:List Bool):Nat->List Bool
 | 0=>f
 | i+1=>lk G (iO G f i) i G.nodes.length
def iP (G:Gp)(f:List Bool):Nat->List Bool
 | 0=>f
 | m+1=>iO G (iP G f m) G.nodes.length
def sO (G:Gp)(fr:List Int):List Bool:=(ids G).map (Rt.hasB fr)
def fin (G:Gp)(fr:List Int):List Bool:=iP G (sO G fr) G.nodes.length
def sel:List Int->List Bool->List Int
 | x::r,b::s=>if b then x::sel r s else sel r s
 | _,_=>[]
def bp (G:Gp)(fr:List Int):List Int:=sel (ids G) (fin G fr)
section
variable {G:Gp}
theorem QK (f:List Bool)(i k:Nat):nK f (upd G f i k):=nK.set f k _
theorem pJ (f:List Bool)(i:Nat):∀ k,nK f (lk G f i k)
 | 0=>nK.refl f
 | k+1=>(pJ f i k).trans (QK _ i k)
theorem rF (f:List Bool):∀ i,nK f (iO G f i)
 | 0=>nK.refl f
 | i+1=>(rF f i).trans (pJ _ i _)
theorem Bl (f:List Bool):∀ m,nK f (iP G f m)
 | 0=>nK.refl f
 | m+1=>(Bl f m).trans (rF _ _)
theorem zG (f:List Bool)(i:Nat){k k':Nat}(h:k<=k'):nK (lk G f i k) (lk G f i k'):=by
 induction h with
 | refl=>exact nK.refl _
 | step _ ih=>exact ih.trans (QK _ i _)
theorem zH (f:List Bool){i i':Nat}(h:i<=i'):nK (iO G f i) (iO G f i'):=by
 induction h with
 | refl=>exact nK.refl _
 | step _ ih=>exact ih.trans (pJ _ _ _)
theorem Ey (f:List Bool)(m:Nat):(iP G f m).length=f.length:=(Bl f m).length.symm
theorem Iu {f:List Bool}(h:iO G f G.nodes.length=f){i k:Nat}(hi:i<G.nodes.length)(hk:k<G.nodes.length):upd G f i k=f:=by
 have a1:iO G f i=f:=nK.anti (by have:=zH (G:=G) f (Nat.le_of_lt hi);rwa [h] at this) (rF f i);have b1:nK (iO G f (i+1)) f:=by have:=zH (G:=G) f (show i+1<=G.nodes.length by omega);rwa [h] at this
 have e1:iO G f (i+1)=lk G f i G.nodes.length:=by show lk G (iO G f i) i _=_;rw[a1]
 rw[e1] at b1;have a2:lk G f i k=f:=nK.anti ((zG f i (Nat.le_of_lt hk)).trans b1) (pJ f i k);have a3:lk G f i (k+1)=f:=nK.anti ((zG f i (show k+1<=G.nodes.length by omega)).trans b1) (pJ f i (k+1));have e2:lk G f i (k+1)=upd G (lk G f i k) i k:=rfl;rw[e2,a2] at a3;exact a3
theorem rounds (f:List Bool):∀ m,iO G (iP G f m) G.nodes.length=iP G f m\/m<=(iP G f m).count true
 | 0=>.inr (Nat.zero_le _)
 | m+1=>by
  by_cases hx:iO G (iP G f m) G.nodes.length=iP G f m
  ·left
   show iO G (iO G (iP G f m) G.nodes.length) G.nodes.length=iO G (iP G f m) G.nodes.length;rw[hx,hx]
  ·right
   rcases rounds f m with h | h
   ·exact absurd h hx
   ·obtain⟨h1,h2⟩:=(rF (G:=G) (iP G f m) G.nodes.length).count
    show m+1<=(iO G (iP G f m) G.nodes.length).count true;have:(iP G f m).count true≠(iO G (iP G f m) G.nodes.length).count true:=λe=>hx (h2 e).symm
    omega
theorem pK (fr:List Int):(sO G fr).length=G.nodes.length:=by simp[sO,ids]
theorem Bn (fr:List Int):(fin G fr).length=G.nodes.length:=by unfold fin;rw[Ey,pK]
theorem all_true:∀ {l:List Bool},l.length<=l.count true->∀ i,i<l.length->l[i]?=some true
 | x::r,h,i,hi=>by
  have hc:=List.count_le_length (a:=true) (l:=r);cases x
  ·simp at h;omega
  ·simp at h
   cases i with
   | zero=>simp
   | succ i=>simp at hi ⊢;simpa using all_true h i hi
theorem Iw (fr:List Int){i k:Nat}(hi:i<G.nodes.length)(hk:k<G.nodes.length)(h:(fin G fr)[i]?=some true)(hh:Rt.hasB (Ew G i) (QJ G k)=true):(fin G fr)[k]?=some true:=by
 have hl:=Bn (G:=G) fr;rcases rounds (G:=G) (sO G fr) G.nodes.length with hx | hx
 ·have hs:=Iu hx hi hk
  have hs':(fin G fr).set k ((fin G fr).getD k false || ((fin G fr).getD i false && Rt.hasB (Ew G i) (QJ G k)))=fin G fr:=hs;have GI:(fin G fr).getD i false=true:=by simp[List.getD,h]
  rw[GI,hh,Bool.and_self,Bool.or_true] at hs';rw[<- hs'];simp[hl,hk]
 ·exact all_true (by show (fin G fr).length<=(fin G fr).count true;rw[hl];exact hx) k (by omega)
def Bq (G:Gp)(fr:List Int)(f:List Bool):Prop:=f.length=G.nodes.length/\∀ (i:Nat) (n:Nd),G.nodes[i]?=some n->f[i]?=some true->vS G fr n.id
theorem xo {i:Nat}{n:Nd}(h:G.nodes[i]?=some n):Ew G i=n.out:=by simp[Ew,h]
theorem Br {i:Nat}{n:Nd}(h:G.nodes[i]?=some n):QJ G i=n.id:=by simp[QJ,h]
theorem VH {i:Nat}(h:i<G.nodes.length):∃ n,G.nodes[i]?=some n:=⟨_,aD h⟩
theorem zI {f:List Bool}{i:Nat}(h:f.getD i false=true):f[i]?=some true:=by
 simp only[List.getD] at h;cases e:f[i]? with
 | none=>rw[e] at h;simp at h
 | some b=>rw[e] at h;simp at h;rw[h]
theorem Bq.upd {fr:List Int}{f:List Bool}(h:Bq G fr f){i k:Nat}(hi:i<G.nodes.length)(hk:k<G.nodes.length):Bq G fr (upd G f i k):=by
 refine⟨by unfold Gr.upd;simp[h.1],λj n hj hf=>?_⟩;unfold Gr.upd at hf;by_cases hjk:k=j
 ·subst hjk
  rw[List.getElem?_set_self (by rw[h.1];exact hk)] at hf;simp only[aeO,Bool.or_eq_true,aez] at hf;rcases hf with hf | ⟨hf,hh⟩
  ·exact h.2 k n hj (zI hf)
  ·obtain⟨m,hm⟩:=VH hi
   rw[xo hm,Br hj,Rt.cj] at hh;exact(h.2 i m hm (zI hf)).step (aE hm) hh
 ·rw[List.getElem?_set_ne hjk] at hf
  exact h.2 j n hj hf
theorem Bq.lk {fr:List Int}{f:List Bool}(h:Bq G fr f){i:Nat}(hi:i<G.nodes.length):∀ k,k<=G.nodes.length->Bq G fr (lk G f i k)
 | 0,_=>h
 | k+1,hk=>(Bq.lk h hi k (by omega)).upd hi (by omega)
theorem Bq.iO {fr:List Int}{f:List Bool}(h:Bq G fr f):∀ i,i<=G.nodes.length->Bq G fr (iO G f i)
 | 0,_=>h
 | i+1,hi=>(Bq.iO h i (by omega)).lk (by omega) _ (aem _)
theorem Bq.iP {fr:List Int}{f:List Bool}(h:Bq G fr f):∀ m,Bq G fr (iP G f m)
 | 0=>h
 | m+1=>(Bq.iP h m).iO _ (aem _)
theorem oH {i:Nat}{n:Nd}(h:G.nodes[i]?=some n):(ids G)[i]?=some n.id:=by simp[ids,h]
theorem kN {i:Nat}{z:Int}(h:(ids G)[i]?=some z):∃ n,G.nodes[i]?=some n/\n.id=z:=by simpa[ids] using h
theorem Bq.fin (fr:List Int):Bq G fr (fin G fr):=by refine Bq.iP ⟨pK fr,λi n hi hf=>?_⟩ _;unfold sO at hf;rw[aeX,oH hi] at hf;simp only[Option.map_some,aeO,Rt.cj] at hf;exact vS.start (ae6.2 ⟨n,aE hi,rfl⟩) hf
theorem oI (x:Int)(r:List Int)(b:Bool)(s:List Bool):sel (x::r) (b::s)=if b then x::sel r s else sel r s:=rfl
theorem rG {z:Int}:∀ {l:List Int} {f:List Bool},z ∈ sel l f ↔ ∃ i:Nat,l[i]?=some z/\f[i]?=some true
 | [],f=>by simp[sel]
 | x::r,[]=>by simp[sel]
 | x::r,b::s=>by
  have ih:=rG (z:=z) (l:=r) (f:=s);have e:z ∈ sel (x::r) (b::s) ↔ (z=x/\b=true)\/z ∈ sel r s:=by rw[oI];cases b <;> simp
  rw[e,ih];constructor
  ·rintro(⟨rfl,rfl⟩ | ⟨i,h1,h2⟩)
   ·exact⟨0,rfl,rfl⟩
   ·exact⟨i+1,by simpa using h1,by simpa using h2⟩
  ·rintro⟨i,h1,h2⟩
   cases i with
   | zero=>left;simp at h1 h2;exact⟨h1.symm,h2⟩
   | succ i=>right;exact⟨i,by simpa using h1,by simpa using h2⟩
theorem rH:∀ (l:List Int) (f:List Bool),(sel l f).Sublist l
 | [],_=>by simp[sel]
 | x::r,[]=>by simp[sel]
 | x::r,b::s=>by
  rw[oI];cases b
  ·exact(rH r s).cons _
  ·exact(rH r s).cons_cons _
theorem iK (hr:Ri G)(fr:List Int):(bp G fr).Pairwise (·<·):=hr.inc.sublist (rH _ _)
theorem pL {fr:List Int}{z:Int}(h:z ∈ bp G fr):z ∈ ids G:=(rH _ _).subset h
theorem lY (fr:List Int):(bp G fr).length<=G.nodes.length:=by
 have:=(rH (ids G) (fin G fr)).length_le;have e:(ids G).length=G.nodes.length:=by simp[ids]
 rw[e] at this;exact this
theorem VI (hr:Ri G){i j:Nat}{n m:Nd}(hi:G.nodes[i]?=some n)(hj:G.nodes[j]?=some m)(h:n.id=m.id):i=j:=by have h1:=oH hi;have h2:=oH hj;rw[h] at h1;have hl:i<(ids G).length:=(aC.1 h1).1;exact(List.getElem?_inj hl (js hr.inc)).1 (h1.trans h2.symm)
theorem iL (hr:Ri G){fr:List Int}{z:Int}:z ∈ bp G fr ↔ vS G fr z:=by
 constructor
 ·intro h
  obtain⟨i,h1,h2⟩:=rG.1 h;obtain⟨n,hn,rfl⟩:=kN h1;exact(Bq.fin fr).2 i n hn h2
 ·intro h
  refine h (λx=>x ∈ bp G fr) (λx hx hf=>?_) (λn hn hs o ho=>?_)
  ·obtain⟨i,hi⟩:=ae5.1 hx
   refine rG.2 ⟨i,hi,(Bl (sO G fr) G.nodes.length).at ?_⟩;unfold sO;rw[aeX,hi];simp only[Option.map_some,aeO,Rt.cj];exact hf
  ·obtain⟨i,hi,hfl⟩:=rG.1 hs
   obtain⟨n',hn',he⟩:=kN hi;obtain⟨j,hj⟩:=ae5.1 hn;obtain rfl:=VI hr hn' hj he;rw[hj] at hn';obtain rfl:n=n':=by simpa using hn'
   obtain⟨k,hk⟩:=ae5.1 (hr.out n hn o ho);obtain⟨m,hm,rfl⟩:=kN hk;refine rG.2 ⟨k,hk,Iw fr (aC.1 hj).1 (aC.1 hm).1 hfl ?_⟩;rw[xo hj,Br hm,Rt.cj];exact ho
end
def Rd (w:av)(v:az)(L:List Int):Prop :=
 (∀ x ∈ L,aI x)/\∃ (A:Option Addr) (cap:Nat),v = am A L.length cap/\L.length<=cap/\cap<=9223372036854775807 /\
  ∀ j x,L[j]?=some x->∃ b o,A=some ⟨b,o,none⟩/\b<w.heap.size/\w.cell? ⟨b,o+j,none⟩=some (Z ag x)
section
variable {w w':av}{v gv:az}{L:List Int}{G:Gp}
theorem Rd.below (h:Rd w v L)(hb:aF w w'):Rd w' v L:=by obtain⟨h0,A,cap,rfl,h1,h2,h3⟩:=h;refine⟨h0,A,cap,rfl,h1,h2,λj x hx=>?_⟩;obtain⟨b,o,e,hl,hc⟩:=h3 j x hx;exact⟨b,o,e,afJ hl hb.size,(hb.cell (p:=⟨b,_,none⟩) hl).trans hc⟩
theorem Rd.mU (h:Own w v L)(ho:∀ x ∈ L,aI x):Rd w v L:=by obtain⟨A,cap,rfl,_,h1,h2,h3⟩:=h.form;refine⟨ho,A,cap,rfl,h1,h2,λj x hx=>?_⟩;obtain⟨g,e,hc⟩:=h3 j x hx;exact⟨g,0,e,aeo w ⟨g,j,none⟩ hc,by simpa using hc⟩
def nT (w:av)(gv:az)(G:Gp):Prop :=
 ∃ (A:Option Addr) (cap:Nat) (B:Option Addr) (cb:Nat),gv = .agg #[am A G.nodes.length cap,am B G.roots.length cb]/\G.nodes.length<=9223372036854775807/\Rd w (am B G.roots.length cb) G.roots /\
  ∀ k x,G.nodes[k]?=some x->aI x.id/\∃ b o C cc,A=some ⟨b,o,none⟩/\b<w.heap.size/\w.cell? ⟨b,o+k * 2,none⟩=some (Z ag x.id)/\w.cell? ⟨b,o+k * 2+1,none⟩=some (am C x.out.length cc)/\Rd w (am C x.out.length cc) x.out
theorem nT.below (h:nT w gv G)(hb:aF w w'):nT w' gv G:=by obtain⟨A,cap,B,cb,rfl,h1,h2,h3⟩:=h;refine⟨A,cap,B,cb,rfl,h1,h2.below hb,λk x hx=>?_⟩;obtain⟨h4,b,o,C,cc,e,hl,c1,c2,hr⟩:=h3 k x hx;exact⟨h4,b,o,C,cc,e,afJ hl hb.size,(hb.cell (p:=⟨b,_,none⟩) hl).trans c1,(hb.cell (p:=⟨b,_,none⟩) hl).trans c2,hr.below hb⟩
theorem nT.Ix (h:nT w gv G):∀ z ∈ ids G,aI z:=by obtain⟨A,cap,B,cb,rfl,h1,h2,h3⟩:=h;intro z hz;obtain⟨i,hi⟩:=ae5.1 hz;obtain⟨n,hn,rfl⟩:=kN hi;exact(h3 i n hn).1
end
theorem ju (w:av)(x:Int):(w.alloc (.cells #[Z ag x] 3)).cell? ⟨w.heap.size,0,none⟩=some (Z ag x):=(bA.new w #[Z ag x] 3).cell rfl
theorem Ez (w:av)(o:Obj)(x:Int):((w.alloc o).alloc (.cells #[Z ag x] 3)).cell? ⟨w.heap.size+1,0,none⟩=some (Z ag x):=by
 have h:=ju (w.alloc o) x;have e:(w.alloc o).heap.size=w.heap.size+1:=by simp
 rw[e] at h;exact h
theorem rI {w:av}{B B':Nat}{e:TypeId}{s:Nat}{v:az}{n:Nat}{xs:List az}(h:w.ownsRow B e s v n xs)(hb:B'<=B):w.ownsRow B' e s v n xs:=by
 refine⟨h.1,?_⟩;rcases h.2 with hn | ⟨g,cap,cur,hv,h1,rest⟩
 ·exact .inl hn
 ·exact .inr ⟨g,cap,cur,hv,afa hb h1,rest⟩
theorem jF (w:av)(a b:az):∃ v0 q,w.alloc (.cells #[a,b] 68)=v0/\w.heap.size=q/\bA v0 q 68 [a,b]/\ax q w v0/\v0.heap.size=q+1 :=⟨_,_,rfl,rfl,bA.new w _ _,(Below.refl _ w).alloc (aem _) _,by simp⟩
section
variable (w:av)
theorem fC {ops:Array Oper}{rest:List Oper}{o:Oper}{a:Act}{Q:Exit->Act->av->Prop}(uz:o.guard=none)(s x:Operand)
  (ho:o.op = .call { callee:=.builtin .append,args:=#[s,x],argTypes:=#[63,63] })
  (B:Nat) (v:az) (L:List Int) (hs:a.eval s=v) (h:w.ownsRow B 3 1 v L.length (vals L)) (ad:Addr) (c:Nat) (y:Int) (hx:a.eval x = am (some ad) 1 c) (hy:w.cell? ad=some (Z ag y)) (hlen:L.length<=17592186044415) (hB:B<=w.heap.size)
  (hK:∀ v' w',w'.ownsRow B 3 1 v' (L++[y]).length (vals (L++[y]))->ax B w w'->wpList prog ops Q rest (a.put o.dst v') w'):wpList prog ops Q (o::rest) a w:=by
 obtain⟨i0,iE,gU,fZ,fR⟩:=info_parts Tryz.infoInt;refine wpList_append_own w uz s x 63 ho B 3 i0 (Z ag 0) 1 8 underlying63 iE gU fZ fR rfl (by decide) v L.length (vals L) hs h ad 1 c [Z ag y] hx rfl ?_ ?_ (by unfold maxLen;omega) (by omega) hB ?_
 ·intro q u hq
  match q,hq with
  | 0,hq=>simp at hq;subst hq;rw[show ad.add 0=ad by cases ad;unfold Addr.add;split <;> simp_all];exact hy
 ·intro u hu;simp at hu;subst hu;rfl
 ·intro v' w' aX hg _
  refine hK v' w' (by rw[vals_snoc];simpa using aX) ?_;exact(Below.refl B w).grown hg hB (λg hg=>(h.lt _ hg).1)
end
theorem d_ (l:List Int)(x:Int)(w:av)(u:az)(hu:Rd w u l) :
  aT 78 #[u,Z ag x] w (.bool (Rt.hasB l x)):=by
 obtain⟨_,A,cap,rfl,eQ,qf,ha⟩:=hu;have HA:=af ha;clear ha;go_enter func78,ntmps78;go_wp2_with fail
 go_loopw [5] (λi wr=>∃ j:Nat,j<=l.length/\i = Z ag j/\Rt.hasB (l.take j) x=false/\w=wr) (λi _=>l.length - (RowKit.intOf i).toNat)
 case atStart=>exact⟨0,by omega,rfl,rfl,rfl⟩
 case round =>
  obtain⟨j,hj,rfl,hn,rfl⟩:=hrel;by_cases hlt:j<l.length
  ·obtain⟨z,hz⟩:∃ z,l[j]?=some z:=⟨_,aD hlt⟩
   obtain⟨b,o,rfl,_,hg⟩:=HA.out j z hz;have HT:Aside (Rt.hasB (l.take (j+1)) x=(z == x)):=by obtain⟨hj,rfl⟩:=aC.1 hz;show _=_;rw[aeU hj];unfold Rt.hasB at hn ⊢;rw[List.any_append,hn];simp
   have HZ:=af hz;clear hz hn;by_cases he:z=x
   ·subst he
    go_wp2_with fail;go_ret;exact⟨aN (Rt.cj.2 (aE HZ.out)).symm,rfl⟩
   ·go_wp2_with fail
    go_roundw
    case rel=>exact⟨j+1,by omega,by go_num,by rw[HT.out];simp[he],by first | rfl | trivial⟩
    case measure=>simp[RowKit.intOf];omega
  ·have:j=l.length:=by omega
   subst this;rw[aeF] at hn;go_wp2_with fail;go_ret;exact⟨aN hn.symm,rfl⟩
theorem zJ (l:List Int)(w:av)(u:az)(hu:Rd w u l) :
  aG 138 #[u] w (.bool (kM (-1) l)) λw'=>ax w.heap.size w w':=by
 obtain⟨_,A,cap,rfl,eQ,qf,ha⟩:=hu;have HA:=af ha;clear ha;go_enter func138,ntmps138;go_wp2_with fail
 go_loopg [3] l.length (λg s3 wr=>∃ (j:Nat) (p:Int),j+g=l.length/\s3 = Z ag j/\Aside (-1<=p/\(j=0->p=-1)/\(0<j->l[j - 1]?=some p)/\kM p (l.drop j)=kM (-1) l)/\ax w.heap.size w wr)
 case atStart=>exact⟨0,-1,by omega,rfl,⟨by omega,λ_=>rfl,λh=>by omega,rfl⟩,Below.refl _ _⟩
 case round =>
  obtain⟨j,p,hj,rfl,hr,hb⟩:=hrel;cases gk with
  | zero =>
   have:j=l.length:=by omega
   subst this;have zb:=hr.out.2.2.2;rw[afv] at zb;have HR:=af zb;clear zb;go_wp2_with fail;go_ret;exact⟨aN HR.out,hb⟩
  | succ g =>
   obtain⟨z,hz⟩:∃ z,l[j]?=some z:=⟨_,aD (by omega)⟩
   obtain⟨b,o,rfl,ic,pm⟩:=HA.out j z hz;have hg:wr.cell? ⟨b,o+j,none⟩=some (Z ag z):=(hb.cell (p:=⟨b,_,none⟩) ic).trans pm;have hlt:(j:Int)<l.length:=by omega
   have HR:Aside ((decide (p<z) && kM z (l.drop (j+1)))=kM (-1) l):=by have:=hr.out.2.2.2;rw[Rt.drop_at hz] at this;exact this
   have HZ:Aside (l[j]?=some z):=hz;have HB:Aside (ax w.heap.size w wr):=hb;obtain⟨r1,r2,r3,_⟩:=hr.out;clear hr hz pm hb;by_cases gU:z<0
   ·have hzb:decide (z<0)=true:=by simpa using gU
    go_wp2_with fail
    first | (go_quiet (fail)) | skip
    go_wp2_with fail;go_ret;exact⟨aN (by rw[<- HR.out];simp;intro h;omega),by first | exact HB.out | exact below_drewN HB.out _⟩
   ·have hzb:decide (z<0)=false:=by simpa using gU
    cases j with
    | zero =>
     obtain rfl:=r2 rfl;simp only[Nat.add_zero] at hg;simp only[Int.natCast_zero] at hlt ⊢;go_wp2_with fail
     first | (go_quiet (fail)) | skip
     go_wp2_with fail
     go_roundg g
     case measure=>omega
     case rel=>exact⟨1,z,by omega,by go_num,⟨by omega,λh=>by omega,λ_=>HZ.out,by rw[<- HR.out];simp;intro h;omega⟩,by first | exact HB.out | exact below_drewN HB.out _⟩
    | succ q =>
     have hq:=r3 (by omega);simp only[Nat.add_sub_cancel] at hq;obtain⟨b',o',e',vD,ab8⟩:=HA.out q p hq;simp only[aeO,Addr.mk.injEq,and_true] at e';obtain⟨rfl,rfl⟩:=e';have qW:wr.cell? ⟨b,o+q,none⟩=some (Z ag p):=(HB.out.cell (p:=⟨b,_,none⟩) ic).trans ab8;clear r2 r3 hq ab8 vD;by_cases hp:z<=p
     ·go_wp2_with fail
      first | (go_quiet (fail)) | skip
      go_wp2_with fail;go_ret;exact⟨aN (by rw[<- HR.out];simp;intro h;omega),by first | exact HB.out | exact below_drewN HB.out _⟩
     ·go_wp2_with fail
      first | (go_quiet (fail)) | skip
      go_wp2_with fail
      go_roundg g
      case measure=>omega
      case rel=>exact⟨q+2,z,by omega,by go_num,⟨by omega,λh=>by omega,λ_=>HZ.out,by rw[<- HR.out];simp;intro h;omega⟩,by first | exact HB.out | exact below_drewN HB.out _⟩
theorem bB (l all:List Int)(w:av)(u v:az)(hu:Rd w u l)(hv:Rd w v all) :
  aT 137 #[u,v] w (.bool (aY l all)):=by
 obtain⟨_,A,cap,rfl,eQ,qf,ha⟩:=hu;have HA:=af ha;have HV:=af hv;clear ha hv;go_enter func137,ntmps137;go_wp2_with fail
 go_loopg [5] l.length (λg s5 wr=>∃ (j:Nat),j+g=l.length/\s5 = Z ag j/\Aside (aY (l.drop j) all=aY l all)/\w=wr)
 case atStart=>exact⟨0,by omega,rfl,rfl,rfl⟩
 case round =>
  obtain⟨j,hj,rfl,hr,rfl⟩:=hrel;cases gk with
  | zero =>
   have:j=l.length:=by omega
   subst this;have zb:=hr.out;rw[afv] at zb;have HR:=af zb;clear zb;go_wp2_with fail;go_ret;exact⟨aN HR.out,rfl⟩
  | succ g =>
   obtain⟨z,hz⟩:∃ z,l[j]?=some z:=⟨_,aD (by omega)⟩
   obtain⟨b,o,rfl,_,hg⟩:=HA.out j z hz;have hlt:(j:Int)<l.length:=by omega
   have HR:Aside ((Rt.hasB all z && aY (l.drop (j+1)) all)=aY l all):=by have:=hr.out;rw[Rt.drop_at hz] at this;exact this
   clear hr hz;have hh:=d_ all z w v HV.out;cases hb:Rt.hasB all z
   ·rw[hb] at hh
    go_wp2_with (go_at_call 78;refine bH hh ?_)
    go_ret;exact⟨aN (by rw[<- HR.out,hb];rfl),rfl⟩
   ·rw[hb] at hh
    go_wp2_with (go_at_call 78;refine bH hh ?_)
    go_roundg g
    case measure=>omega
    case rel=>exact⟨j+1,by omega,by go_num,by show _=_;rw[<- HR.out,hb];rfl,rfl⟩
theorem xp {G:Gp}{j:Nat}{n:Nd}(h:G.nodes[j]?=some n):(ids G).take (j+1)=(ids G).take j++[n.id]:=by have h1:=oH h;obtain⟨hj,he⟩:=aC.1 h1;rw[aeU hj,he]
theorem kO {G:Gp}:(ids G).length=G.nodes.length:=by simp[ids]
theorem QL (G:Gp)(w:av)(gv:az)(hg:nT w gv G)(hn:G.nodes.length<=4398046511103) :
  Calls prog 136 #[gv] w λe w'=>∃ u,e = .returned u/\w'.ownsRow w.heap.size 3 1 u (ids G).length (vals (ids G))/\ax w.heap.size w w':=by
 obtain⟨A,cap,B,cb,rfl,h1,h2,h3⟩:=hg;obtain⟨v0,q,fS,hq,K,hb0,U9⟩:=jF w (am A G.nodes.length cap) (am B G.roots.length cb);have H3:=af h3;have H2:=af h2;have e0:=K.cell (i:=0) rfl;have e1:=K.cell (i:=1) rfl;have HK:=af K;have C_:=af hb0;clear h3 h2 K hb0;go_enter func136,ntmps136;go_wp2_with fail
 go_loopg [3,4] G.nodes.length (λg s3 s9 wr=>∃ (j:Nat) (L:List Int),j+g=G.nodes.length/\s9 = Z ag j/\Aside (L=(ids G).take j)/\Aside (wr.ownsRow v0.heap.size 3 1 s3 L.length (vals L))/\L.length=j/\Aside (ax v0.heap.size v0 wr))
 case atStart=>exact⟨0,[],by omega,rfl,rfl,aeP _ _ _ _,rfl,Below.refl _ _⟩
 case round =>
  obtain⟨j,L,hj,rfl,hL,ho,hlen,HB⟩:=hrel;have k0:=(HK.out.below HB.out (by omega)).cell (i:=0) rfl;have k1:=(HK.out.below HB.out (by omega)).cell (i:=1) rfl;cases gk with
  | zero =>
   have:j=G.nodes.length:=by omega
   subst this;go_wp2_with fail;go_ret;have hL':=hL.out;rw[afo (by rw[kO];exact aem _)] at hL';subst hL';exact⟨_,rfl,rI ho.out (by omega),by rw[hq];exact C_.out.trans (HB.out.mono (by omega))⟩
  | succ g =>
   obtain⟨x,hx⟩:∃ x,G.nodes[j]?=some x:=⟨_,aD (by omega)⟩
   obtain⟨Ph,b,o,C,cc,rfl,ic,c1,c2,_⟩:=H3.out j x hx;have aO:ax w.heap.size w wr:=by rw[hq];exact C_.out.trans (HB.out.mono (by omega))
   have d1:=(aO.cell (p:=⟨b,_,none⟩) ic).trans c1;have d2:=(aO.cell (p:=⟨b,_,none⟩) ic).trans c2;have hlt:(j:Int)<G.nodes.length:=by omega
   have HT:Aside ((ids G).take (j+1)=L++[x.id]):=by show _=_;rw[xp hx,hL.out]
   have hsz:=HB.out.size;clear hx c1 c2 Ph hL aO
   go_wp2_with (at_builtin;refine fC _ rfl _ _ rfl v0.heap.size _ L rfl (ho.out.alloc _) _ 1 x.id rfl (ju _ _) (by omega) (by first | omega | (simp;omega)) ?_;intro v1 w1 eH aO;have O1:Aside (w1.ownsRow v0.heap.size 3 1 v1 (L++[x.id]).length (vals (L++[x.id]))):=eH;have B1:Aside (ax v0.heap.size v0 w1):=(HB.out.alloc hsz _).trans aO;clear eH aO d1 d2 k0 k1)
   go_roundg g
   case measure=>omega
   case rel=>exact⟨j+1,L++[x.id],by omega,by go_num,HT.out.symm,O1.out,by simp[hlen],B1.out⟩
theorem Iy {G:Gp}{j:Nat}{n:Nd}(h:G.nodes[j]?=some n):G.nodes.drop j=n::G.nodes.drop (j+1):=by obtain⟨hj,rfl⟩:=aC.1 h;exact List.drop_eq_getElem_cons hj
theorem Rd.row {w:av}{base:Nat}{u:az}{L:List Int}(h:w.ownsRow base 3 1 u L.length (vals L))(ho:∀ x ∈ L,aI x):Rd w u L:=Rd.mU (Own.of h).1 ho
theorem cO (G:Gp)(w:av)(gv:az)(hg:nT w gv G)(hn:G.nodes.length<=4398046511103) :
  aG 77 #[gv] w (.bool (aK G)) λw'=>ax w.heap.size w w':=by
 have Yc:=hg.Ix;obtain⟨A,cap,B,cb,rfl,h1,h2,h3⟩:=id hg;obtain⟨v0,q,fS,hq,K,hb0,U9⟩:=jF w (am A G.nodes.length cap) (am B G.roots.length cb);have pm:=hg.below (by rw[hq];exact hb0:ax w.heap.size w v0);have H3:=af h3;have H2:=af h2;have e0:=K.cell (i:=0) rfl;have e1:=K.cell (i:=1) rfl;have HK:=af K;have C_:=af hb0;have HI:=af Yc;clear h3 h2 K hb0 hg Yc;go_enter func77,ntmps77;go_wp2_with fail;refine(QL G v0 _ pm hn).mono ?_;rintro e w1 ⟨u,rfl,hu,aO⟩;have HU:Aside (Rd w1 u (ids G)):=Rd.row hu HI.out;have dE:Aside (ax v0.heap.size v0 w1):=aO;clear hu aO e0 e1;have k0:=(HK.out.below dE.out (by omega)).cell (i:=0) rfl;have k1:=(HK.out.below dE.out (by omega)).cell (i:=1) rfl;have fJ:ax w.heap.size w w1:=by rw[hq];exact C_.out.trans (dE.out.mono (by omega))
 have Uy:=af fJ;clear fJ pm;go_wp2_with fail
 go_loopg [4] G.nodes.length (λg s4 wr=>∃ (j:Nat),j+g=G.nodes.length/\s4 = Z ag j/\Aside ((G.nodes.drop j).all (λn=>aY n.out (ids G))=G.nodes.all (λn=>aY n.out (ids G)))/\w1=wr)
 case atStart=>exact⟨0,by omega,rfl,rfl,rfl⟩
 case round =>
  obtain⟨j,hj,rfl,hr,rfl⟩:=hrel;cases gk with
  | succ g =>
   obtain⟨x,hx⟩:∃ x,G.nodes[j]?=some x:=⟨_,aD (by omega)⟩
   obtain⟨Ph,b,o,C,cc,rfl,ic,c1,c2,hrd⟩:=H3.out j x hx;have d1:=(Uy.out.cell (p:=⟨b,_,none⟩) ic).trans c1;have d2:=(Uy.out.cell (p:=⟨b,_,none⟩) ic).trans c2;have hlt:(j:Int)<G.nodes.length:=by omega
   have HR:Aside ((aY x.out (ids G) && (G.nodes.drop (j+1)).all (λn=>aY n.out (ids G)))=G.nodes.all (λn=>aY n.out (ids G))):=by have:=hr.out;rw[Iy hx] at this;exact this
   have hc:=bB x.out (ids G) w1 _ u (hrd.below Uy.out) HU.out;clear hr hx c1 c2 Ph hrd;cases hb:aY x.out (ids G)
   ·rw[hb] at hc
    go_wp2_with (go_at_call 137;refine bH hc ?_)
    go_ret;exact⟨aN (by unfold aK;rw[<- HR.out,hb];rfl),Uy.out⟩
   ·rw[hb] at hc
    go_wp2_with (go_at_call 137;refine bH hc ?_)
    go_roundg g
    case measure=>omega
    case rel=>exact⟨j+1,by omega,by go_num,by show _=_;rw[<- HR.out,hb];rfl,rfl⟩
  | zero =>
   have:j=G.nodes.length:=by omega
   subst this;have HR:Aside (true=G.nodes.all (λn=>aY n.out (ids G))):=by have:=hr.out;rw[afv] at this;exact this
   clear hr;have hlt:¬ ((G.nodes.length:Int)<G.nodes.length):=by omega
   have c1:=zJ (ids G) w1 u HU.out;go_wp2_with fail;refine aP c1 λw2 bC=>?_
   have m0:=(bC.cell (p:=⟨q,0,none⟩) (aeo _ _ k0)).trans k0;have m1:=(bC.cell (p:=⟨q,1,none⟩) (aeo _ _ k1)).trans k1;have jI:=aH Uy.out bC;have c2:=zJ G.roots w2 _ (H2.out.below jI);have Pi:=HU.out.below bC;have OM:=af jI;have HU2:=af Pi;clear bC jI k0 k1 Pi;go_wp2_with fail;refine aP c2 λw3 dj=>?_
   have n0:=(dj.cell (p:=⟨q,0,none⟩) (aeo _ _ m0)).trans m0;have n1:=(dj.cell (p:=⟨q,1,none⟩) (aeo _ _ m1)).trans m1;have Dc:=aH OM.out dj;have c3:=bB G.roots (ids G) w3 _ u (H2.out.below Dc) (HU2.out.below dj);have HW3:=af Dc;clear dj Dc m0 m1 c1 c2;go_wp2_with fail;refine bH c3 ?_;have HE:Aside ((kM (-1) (ids G) && kM (-1) G.roots && aY G.roots (ids G))=aK G):=by show _=_;unfold aK;rw[<- HR.out];rfl
   clear c3;generalize kM (-1) (ids G)=a1 at *;generalize kM (-1) G.roots=a2 at *;generalize aY G.roots (ids G)=a3 at *;cases a1 <;> cases a2 <;> cases a3 <;> (go_wp2_with fail;go_ret;exact⟨aN HE.out,HW3.out⟩)
theorem times_any (l:List Int)(x:Int)(w:av)(u:az)(hu:Rd w u l)(hl:l.length<=100000) :
  aT 139 #[u,Z ag x] w (Z ag (l.count x)):=by
 obtain⟨_,A,cap,rfl,eQ,qf,ha⟩:=hu;have HA:=af ha;clear ha;go_enter func139,ntmps139;go_wp2_with fail
 go_loopg [5,6] l.length (λg s5 s6 wr=>∃ (j c:Nat),j+g=l.length/\s6 = Z ag j/\s5 = Z ag c/\c<=j/\Aside (c=(l.take j).count x)/\w=wr)
 case atStart=>exact⟨0,0,by omega,rfl,rfl,by omega,rfl,rfl⟩
 case round =>
  obtain⟨j,c,hj,rfl,rfl,hcj,hc,rfl⟩:=hrel;cases gk with
  | zero =>
   have:j=l.length:=by omega
   subst this;have jh:=hc.out;rw[aeF] at jh;have HC:=af jh;clear jh hc;go_wp2_with fail;go_ret;exact⟨bR (by rw[<- HC.out]),rfl⟩
  | succ g =>
   obtain⟨z,hz⟩:∃ z,l[j]?=some z:=⟨_,aD (by omega)⟩
   obtain⟨b,o,rfl,_,hg⟩:=HA.out j z hz;have hlt:(j:Int)<l.length:=by omega
   have HT:Aside ((l.take (j+1)).count x=c+if z=x then 1 else 0):=by show _=_;obtain⟨hj,rfl⟩:=aC.1 hz;rw[aeU hj,List.count_append,<- hc.out];simp[List.count_singleton]
   clear hz hc;by_cases he:z=x
   ·subst he
    go_wp2_with fail
    go_roundg g
    case measure=>omega
    case rel=>exact⟨j+1,c+1,by omega,by go_num,by go_num,by omega,by show _=_;rw[HT.out];simp,rfl⟩
   ·go_wp2_with fail
    go_roundg g
    case measure=>omega
    case rel=>exact⟨j+1,c,by omega,by go_num,rfl,by omega,by show _=_;rw[HT.out];simp[he],rfl⟩
def gA (G:Gp)(fr:List Int):List Int:=if aK G then bp G fr else []
def rJ (f:List Bool):List az:=f.map Value.bool
theorem rK {f:List Bool}{i:Nat}{b:Bool}(h:f[i]?=some b):(rJ f)[i]?=some (.bool b):=by simp[rJ,h]
theorem Nr (f:List Bool)(i:Nat)(b:Bool):(rJ f).set i (.bool b)=rJ (f.set i b):=by simp[rJ,List.map_set]
theorem vT {f:List Bool}{i:Nat}(h:i<f.length):∃ b,f[i]?=some b/\f.getD i false=b:=⟨f[i],aD h,by simp[List.getD,h]⟩
theorem Tryz.infoBool:∃ i,prog.info? 4=some i/\i.zero=some (.bool false)/\i.size=1/\i.bytes=1:=⟨_,rfl,by kernel_rfl,by kernel_rfl,by kernel_rfl⟩
theorem Ns (w:av)(n:Nat)(h:n<=65536) :
  (Instr.makeSlice 64 (Z ag n) (Z ag n)).run prog w = .ok (am (some ⟨w.heap.size,0,none⟩) n n) (w.alloc (.cells (madeCells #[Value.bool false] n) 4)):=by
 obtain⟨i,h1,h2,h3,h4⟩:=Tryz.infoBool;have:=run_make (P:=prog) w 64 4 i (.bool false) underlying64 h1 h2 ag ag n n (by omega) (Int.le_refl _) (by rw[h4];omega) (by omega);rw[h3,Int.toNat_natCast,Nat.mul_one] at this;exact this
theorem aaO (n:Nat):(madeCells #[Value.bool false] n).toList=rJ (aeK n false):=by
 apply List.ext_getElem
 ·simp[madeCells,rJ]
 ·intro i h1 h2
  simp[madeCells,Nat.mod_one,rJ]
theorem QM {G:Gp}{fr:List Int}{j:Nat}{n:Nd}(h:G.nodes[j]?=some n) :
  ((sO G fr).take j++aeK (G.nodes.length - j) false).set j (Rt.hasB fr n.id)=(sO G fr).take (j+1)++aeK (G.nodes.length - (j+1)) false:=by
 have hj:j<G.nodes.length:=(aC.1 h).1;have hl:(sO G fr).length=G.nodes.length:=pK fr;have h1:(sO G fr)[j]?=some (Rt.hasB fr n.id):=by unfold sO;rw[aeX,oH h];rfl
 obtain⟨hj2,he⟩:=aC.1 h1;have e:G.nodes.length - j=(G.nodes.length - (j+1))+1:=by omega
 rw[aeU hj2,he,e,List.replicate_succ,List.set_append_right _ _ (by simp;omega)];have:j - (af7 j (sO G fr)).length=0:=by simp;omega
 rw[this];simp
theorem EA:∀ (l:List Int) (f:List Bool) (j:Nat) (x:Int) (b:Bool),l[j]?=some x->f[j]?=some b->sel (l.take (j+1)) (f.take (j+1))=sel (l.take j) (f.take j)++(if b then [x] else [])
 | y::r,c::s,0,x,b,h1,h2=>by
  simp at h1 h2;subst h1 h2;show sel (y::af7 0 r) (c::af7 0 s)=_;rw[oI];simp[sel]
 | y::r,c::s,j+1,x,b,h1,h2=>by
  have ih:=EA r s j x b (by simpa using h1) (by simpa using h2);show sel (y::af7 (j+1) r) (c::af7 (j+1) s)=sel (y::af7 j r) (c::af7 j s)++_;rw[oI,oI,ih];cases c <;> simp
structure Fg (v wr:av)(m:Nat)(f:List Bool):Prop where
 blk:bA wr m 4 (rJ f)
 below:ax v.heap.size v wr
 lo:v.heap.size<=m
section
variable {v wr:av}{m:Nat}{f:List Bool}
theorem Fg.drewN (h:Fg v wr m f)(n:Nat):Fg v (wr.drewN n) m f:=⟨h.blk.drewN n,below_drewN h.below n,h.lo⟩
theorem Fg.set (h:Fg v wr m f)(i:Nat)(b:Bool):Fg v (wr.setCell ⟨m,i,none⟩ (.bool b)) m (f.set i b):=by refine⟨by rw[<- Nr];exact h.blk.set i _,?_,h.lo⟩;exact h.below.setCell h.lo _
theorem Fg.more {wr':av}(h:Fg v wr m f)(hb:ax (m+1) wr wr'):Fg v wr' m f :=⟨h.blk.below hb (by omega),h.below.trans (hb.mono (by have:=h.lo;omega)),h.lo⟩
end
theorem xq (G:Gp)(fr:List Int)(w:av)(gv fv:az)(hg:nT w gv G)(hf:Rd w fv fr)(hn:G.nodes.length<=1000) :
  Calls prog 21 #[gv,fv] w λe w'=>∃ u,e = .returned u/\w'.ownsRow w.heap.size 3 1 u (gA G fr).length (vals (gA G fr))/\ax w.heap.size w w':=by
 obtain⟨A,cap,B,cb,rfl,h1,h2,h3⟩:=id hg;obtain⟨v0,q,fS,hq,K,hb0,U9⟩:=jF w (am A G.nodes.length cap) (am B G.roots.length cb);have pm:=hg.below (by rw[hq];exact hb0:ax w.heap.size w v0);have H3:=af h3;have HF:=af hf;have e0:=K.cell (i:=0) rfl;have e1:=K.cell (i:=1) rfl;have HK:=af K;have C_:=af hb0;have cR:=cO G v0 _ pm (by omega);clear h3 h2 K hb0 hg hf;cases hr:aK G
 ·rw[hr] at cR
  have HA:Aside (gA G fr=[]):=by show _=_;simp[gA,hr]
  clear hr;go_enter func21,ntmps21;go_wp2_with fail;refine aP cR λw1 aO=>?_
  have dE:Aside (ax v0.heap.size v0 w1):=aO;clear aO cR e0 e1;go_wp2_with fail;go_ret;exact⟨_,rfl,by rw[HA.out];exact aeP _ _ _ _,by rw[hq];exact C_.out.trans (dE.out.mono (by omega))⟩
 ·rw[hr] at cR
  have HA:Aside (gA G fr=bp G fr):=by show _=_;simp[gA,hr]
  clear hr;go_enter func21,ntmps21;go_wp2_with fail;refine aP cR λw1 aO=>?_
  have dE:Aside (ax v0.heap.size v0 w1):=aO;clear aO cR e0 e1;have k0:=(HK.out.below dE.out (by omega)).cell (i:=0) rfl;have k1:=(HK.out.below dE.out (by omega)).cell (i:=1) rfl;have O_:=Ns w1 G.nodes.length (by omega);have fJ:ax w.heap.size w w1:=by rw[hq];exact C_.out.trans (dE.out.mono (by omega))
  obtain⟨v2,Uz,m,hm,F0⟩:∃ v2,w1.alloc (.cells (madeCells #[Value.bool false] G.nodes.length) 4)=v2/\∃ m,w1.heap.size=m/\Fg w1 v2 m (aeK G.nodes.length false) :=⟨_,rfl,_,rfl,by have:=bA.new w1 (madeCells #[Value.bool false] G.nodes.length) 4;rwa [aaO] at this,(Below.refl _ w1).alloc (aem _) _,aem _⟩
  have Uy:=af fJ;have HF0:=af F0;have hqm:q<m:=by have:=fJ.size;have:=dE.out.size;omega
  have keep:∀ (wr:av) (f:List Bool),Fg w1 wr m f->wr.cell? ⟨q,0,none⟩=some (am A G.nodes.length cap)/\wr.cell? ⟨q,1,none⟩=some (am B G.roots.length cb)/\ax w.heap.size w wr:=λwr f h =>⟨(h.below.cell (p:=⟨q,0,none⟩) (by show q<w1.heap.size;omega)).trans k0,(h.below.cell (p:=⟨q,1,none⟩) (by show q<w1.heap.size;omega)).trans k1,aH fJ h.below⟩
  have KP:=af keep;clear fJ F0 keep;go_wp2_with fail;clear O_ k0 k1
  go_loopg [7] G.nodes.length (λg s7 wr=>∃ (j:Nat),j+g=G.nodes.length/\s7 = Z ag j/\Aside (Fg w1 wr m ((sO G fr).take j++aeK (G.nodes.length - j) false)))
  case atStart=>exact⟨0,by omega,rfl,by show Fg _ _ _ _;simpa using HF0.out⟩
  case round =>
   obtain⟨j,hj,rfl,hF⟩:=hrel;obtain⟨k0,k1,ia⟩:=KP.out _ _ hF.out;cases gk with
   | succ g =>
    obtain⟨x,hx⟩:∃ x,G.nodes[j]?=some x:=⟨_,aD (by omega)⟩
    obtain⟨Ph,b,o,C,cc,rfl,ic,c1,c2,hrd⟩:=H3.out j x hx;have d1:=(ia.cell (p:=⟨b,_,none⟩) ic).trans c1;have d2:=(ia.cell (p:=⟨b,_,none⟩) ic).trans c2;have hlt:(j:Int)<G.nodes.length:=by omega
    have cH:=d_ fr x.id wr fv (HF.out.below ia);have HS:Aside (Fg w1 (wr.setCell ⟨m,j,none⟩ (.bool (Rt.hasB fr x.id))) m ((sO G fr).take (j+1)++aeK (G.nodes.length - (j+1)) false)):=by show Fg _ _ _ _;rw[<- QM hx];exact hF.out.set j _
    obtain⟨b0,hb0,_⟩:=vT (f:=(sO G fr).take j++aeK (G.nodes.length - j) false) (i:=j) (by simp[pK];omega);have f0:=hF.out.blk.cell (rK hb0);have f1:=hF.out.blk.free j;clear c1 c2 hx Ph hrd hb0 ia hF
    go_wp2_with (go_at_call 78;refine bH cH ?_)
    go_roundg g
    case measure=>omega
    case rel=>exact⟨j+1,by omega,by go_num,HS.out⟩
   | zero =>
    have:j=G.nodes.length:=by omega
    subst this;have ze:Aside (Fg w1 wr m (sO G fr)):=by show Fg _ _ _ _;have:=hF.out;rw[afo (by rw[pK];exact aem _),Nat.sub_self] at this;simpa using this
    clear hF ia;go_wp2_with fail;clear k0 k1
    go_loopg [8] G.nodes.length (λg s8 wx=>∃ (p:Nat),p+g=G.nodes.length/\s8 = Z ag p/\Aside (Fg w1 wx m (iP G (sO G fr) p)))
    case atStart=>exact⟨0,by omega,rfl,ze.out⟩
    case round =>
     obtain⟨p,hp,rfl,hF⟩:=hrel;obtain⟨k0,k1,ia⟩:=KP.out _ _ hF.out;clear ze;cases gk with
     | succ g =>
      have hlt:(p:Int)<G.nodes.length:=by omega
      clear ia;go_wp2_with fail;clear k0 k1;rename_i wp
      go_loopg [9] G.nodes.length (λg s9 wx=>∃ (i:Nat),i+g=G.nodes.length/\s9 = Z ag i/\Aside (Fg w1 wx m (iO G (iP G (sO G fr) p) i)))
      case atStart=>exact⟨0,by omega,rfl,hF.out⟩
      case round =>
       obtain⟨i,hi,rfl,hFi⟩:=hrel;obtain⟨k0,k1,ia⟩:=KP.out _ _ hFi.out;cases gk with
       | zero =>
        have:i=G.nodes.length:=by omega
        subst this;have HS:Aside (Fg w1 wr m (iP G (sO G fr) (p+1))):=hFi.out;clear hF hFi ia;go_wp2_with fail
        go_roundg g
        case measure=>omega
        case rel=>exact⟨p+1,by omega,by go_num,HS.out⟩
       | succ gi =>
        obtain⟨x,hx⟩:∃ x,G.nodes[i]?=some x:=⟨_,aD (by omega)⟩
        obtain⟨Ph,b,o,C,cc,rfl,ic,c1,c2,hrd⟩:=H3.out i x hx;have hlt:(i:Int)<G.nodes.length:=by omega
        have HC:Aside (w.cell? ⟨b,o+i * 2,none⟩=some (Z ag x.id)/\w.cell? ⟨b,o+i * 2+1,none⟩=some (am C x.out.length cc)/\Rd w (am C x.out.length cc) x.out/\G.nodes[i]?=some x):=⟨c1,c2,hrd,hx⟩
        clear ia hF c1 c2 hrd hx;go_wp2_with fail;clear k0 k1
        go_loopg [10] G.nodes.length (λg s10 wx=>∃ (k:Nat),k+g=G.nodes.length/\s10 = Z ag k/\Aside (Fg w1 wx m (lk G (iO G (iP G (sO G fr) p) i) i k)))
        case atStart=>exact⟨0,by omega,rfl,hFi.out⟩
        case round =>
         obtain⟨k,hk,rfl,Yd⟩:=hrel;obtain⟨k0,k1,ia⟩:=KP.out _ _ Yd.out;clear hFi;cases gk with
         | zero =>
          have:k=G.nodes.length:=by omega
          subst this;have HS:Aside (Fg w1 wr m (iO G (iP G (sO G fr) p) (i+1))):=Yd.out;clear Yd ia;go_wp2_with fail
          go_roundg gi
          case measure=>omega
          case rel=>exact⟨i+1,by omega,by go_num,HS.out⟩
         | succ gk =>
          obtain⟨y,hy⟩:∃ y,G.nodes[k]?=some y:=⟨_,aD (by omega)⟩
          obtain⟨_,b',o',C',cc',e',_,a1,a2,_⟩:=H3.out k y hy;simp only[aeO,Addr.mk.injEq,and_true] at e';obtain⟨rfl,rfl⟩:=e';obtain⟨c1,c2,hrd,hx⟩:=HC.out;have hlk:(k:Int)<G.nodes.length:=by omega
          have d1:=(ia.cell (p:=⟨b,_,none⟩) ic).trans c2;have d2:=(ia.cell (p:=⟨b,_,none⟩) ic).trans a1;have cH:∀ n,aG 78 #[am C x.out.length cc,Z ag y.id] (wr.drewN n) (.bool (Rt.hasB x.out y.id)) λw'=>wr.drewN n=w':=λn=>d_ x.out y.id _ _ (hrd.below (below_drewN ia n))
          have hlen:(lk G (iO G (iP G (sO G fr) p) i) i k).length=G.nodes.length:=by rw[<- (pJ _ i k).length,<- (rF _ i).length,Ey,pK]
          obtain⟨fi,XR,aaP⟩:=vT (f:=lk G (iO G (iP G (sO G fr) p) i) i k) (i:=i) (by omega);obtain⟨fk,hfk,aaQ⟩:=vT (f:=lk G (iO G (iP G (sO G fr) p) i) i k) (i:=k) (by omega);have f0:=Yd.out.blk.cell (rK XR);have f1:=Yd.out.blk.cell (rK hfk);have f2:=Yd.out.blk.free k;have HS:Aside (∀ n,Fg w1 ((wr.drewN n).setCell ⟨m,k,none⟩ (.bool (fk || (fi && Rt.hasB x.out y.id)))) m (lk G (iO G (iP G (sO G fr) p) i) i (k+1))):=by
           intro n;have h:=(Yd.out.drewN n).set k (fk || (fi && Rt.hasB x.out y.id));have e:lk G (iO G (iP G (sO G fr) p) i) i (k+1)=(lk G (iO G (iP G (sO G fr) p) i) i k).set k (fk || (fi && Rt.hasB x.out y.id)):=by show upd G _ i k=_;unfold upd;rw[aaP,aaQ,xo hx,Br hy]
           rw[e];exact h
          clear hy a1 a2 c1 c2 hrd hx ia Yd hlen XR aaP hfk aaQ Ph;generalize Rt.hasB x.out y.id=hv at *;cases fi <;> cases fk <;> (go_wp2_with fail;go_quiet ((go_at_call 78;exact bu (cH _)));go_wp2_with fail;go_roundg gk;(case measure=>omega);(case rel=>exact⟨k+1,by omega,by go_num,by show Fg _ _ _ _;have:=HS.out nq;simpa using this⟩))
     | zero =>
      have:p=G.nodes.length:=by omega
      subst this;have XM:Aside (Fg w1 wr m (fin G fr)):=hF.out;clear hF ia;go_wp2_with fail;clear k0 k1
      go_loopg [12,13] G.nodes.length (λg s12 s13 wx=>∃ (j:Nat) (L:List Int),j+g=G.nodes.length/\s13 = Z ag j/\Aside (L=sel ((ids G).take j) ((fin G fr).take j))/\L.length<=j/\Aside (wx.ownsRow (m+1) 3 1 s12 L.length (vals L))/\Aside (Fg w1 wx m (fin G fr))/\Aside (m+1<=wx.heap.size))
      case atStart=>exact⟨0,[],by omega,rfl,rfl,by simp,aeP _ _ _ _,XM.out,XM.out.blk.lt⟩
      case round =>
       obtain⟨j,L,hj,rfl,hL,hlen,ho,hF,hsz⟩:=hrel;obtain⟨k0,k1,ia⟩:=KP.out _ _ hF.out;clear XM;cases gk with
       | zero =>
        have:j=G.nodes.length:=by omega
        subst this;have HL:Aside (L=gA G fr):=by show _=_;rw[hL.out,HA.out,afo (by rw[kO];exact aem _),afo (by rw[Bn];exact aem _)];rfl
        have DN:=af ia;have HWm:Aside (w.heap.size<=m):=by have:=Uy.out.size;show _<=_;omega
        clear hL ia;go_wp2_with fail;go_ret;exact⟨_,rfl,by rw[<- HL.out];exact rI ho.out (by have:=HWm.out;omega),DN.out⟩
       | succ g =>
        obtain⟨x,hx⟩:∃ x,G.nodes[j]?=some x:=⟨_,aD (by omega)⟩
        obtain⟨Ph,b,o,C,cc,rfl,ic,c1,c2,hrd⟩:=H3.out j x hx;have hlt:(j:Int)<G.nodes.length:=by omega
        have d1:=(ia.cell (p:=⟨b,_,none⟩) ic).trans c1;obtain⟨fj,hfj,_⟩:=vT (f:=fin G fr) (i:=j) (by rw[Bn];omega);have f0:=hF.out.blk.cell (rK hfj);have HT:Aside (sel ((ids G).take (j+1)) ((fin G fr).take (j+1))=L++(if fj then [x.id] else [])):=by show _=_;rw[EA _ _ j x.id fj (oH hx) hfj,hL.out]
        have ab9:=hsz.out;clear hx Ph c1 c2 hrd hfj hL ia;cases fj
        ·go_wp2_with fail
         go_roundg g
         case measure=>omega
         case rel=>exact⟨j+1,L,by omega,by go_num,by show _=_;rw[HT.out];simp,by omega,ho.out,hF.out,hsz.out⟩
        ·go_wp2_with (at_builtin;refine fC _ rfl _ _ rfl (m+1) _ L rfl (ho.out.alloc _) _ 1 x.id rfl (ju _ _) (by omega) (by first | omega | (simp;omega)) ?_;intro v1 w2 eH aO;have O1:Aside (w2.ownsRow (m+1) 3 1 v1 (L++[x.id]).length (vals (L++[x.id]))):=eH;have B1:Aside (ax (m+1) wr w2):=((Below.refl (m+1) wr).alloc ab9 _).trans aO;clear eH aO d1 k0 k1 f0)
         go_roundg g
         case measure=>omega
         case rel=>exact⟨j+1,L++[x.id],by omega,by go_num,by show _=_;rw[HT.out];simp,by simp;omega,O1.out,hF.out.more B1.out,afa ab9 B1.out.size⟩
theorem Iz {G:Gp}{fr:List Int}:(gA G fr).length<=G.nodes.length:=by
 unfold gA;split
 ·exact lY fr
 ·simp
theorem Tryz.lawIntG:Keyed prog 3:=int_keyed underlying3
theorem xr {H:Type}{P:Program}{k:TypeId}{R:az->Option (DataW H × List MemPlace)}{w w':av}{b n:Nat}{D:DataW H}{S:List Nat}(h:w.ownsMap P k R b n D)(ho:Only S w w')(hb:b ∉ S):w'.ownsMap P k R b n D:=by have hl:=h.lt;obtain⟨es,clock,he,r⟩:=h;exact⟨es,clock,(ho.block b hl hb).trans he,r⟩
theorem tB {H:Type}{P:Program}{k:TypeId}{R:az->Option (DataW H × List MemPlace)}{w:av}{b n:Nat}{D:DataW H}(h:w.ownsMap P k R b n D):IsMap D:=by obtain⟨es,clock,_,_,_,rfl⟩:=h;exact⟨_,rfl⟩
def fU (v:az):Option (DataW az × List MemPlace):=some (.held v,[])
theorem Ye {a b:Int}(h:a≠b):Rt.ky a≠Rt.ky b:=λe=>h (by simpa[Rt.ky] using e)
theorem QN (a:Int):WideAt.IsKeyLit (Rt.ky a):=by unfold Rt.ky;simp[WideAt.IsKeyLit]


theorem Bt {G:Gp}(hr:Ri G)(fr:List Int):(ids G).filter (λz=>Rt.hasB (bp G fr) z)=bp G fr:=by refine Bj (hr.inc.filter _) (iK hr fr) (λz=>?_);rw[List.mem_filter,Rt.cj];exact⟨λh=>h.2,λh=>⟨pL h,h⟩⟩
structure Tm (wr:av)(t n:Nat)(m:List Int)(D:DataW Unit):Prop where
 own:wr.ownsMap prog 3 (plainElem prog 3) t n D
 cnt:∀ z,D.atKey (Rt.ky z) (.lit (.int ag 0)) = .lit (.int ag (m.count z:Int))



end Gr
end
section
namespace Tr
open Go.RowKit Go.Maps Gr
def ptrs (gray:List Int)(l:List Nd):List Int:=(l.filter (λn=>Rt.hasB gray n.id)).flatMap Nd.out
def Bv:List (Nd × Int)->Int->Int
 | [],_=>0
 | (n,c)::r,z=>(if n.id=z then c else 0)+Bv r z
def QO (G:Gp)(k gray:List Int)(z:Int):Int:=Bv (G.nodes.zip k) z - ((ptrs gray G.nodes).count z:Int)
def jM (G:Gp)(k gray:List Int)(z:Int):Int:=wrap64 (QO G k gray z)
def US (k:List Int):Bool:=k.all (λx=>decide (0<=x))
def gB (G:Gp)(k c:List Int):Bool:=aK G && decide (k.length=G.nodes.length) && US k && aY c (ids G)
def j4 (G:Gp)(c:List Int):List Int:=if aY c (ids G) then gA G c else []
def IA (G:Gp)(k gray:List Int):List Int:=gray.map (jM G k gray)
def nL (G:Gp)(k gray:List Int):List Int:=gray.filter (λz=>decide (0<jM G k gray z))
def kP (G:Gp)(k gray:List Int):List Int:=gray.filter (λz=>!Rt.hasB (bp G (nL G k gray)) z)
def mV (G:Gp)(k c:List Int):List Int:=if gB G k c then IA G k (bp G c) else []
def dR (G:Gp)(k c:List Int):List Int:=if gB G k c then kP G k (bp G c) else []
def xt (G:Gp)(k c:List Int):Int:=if gB G k c then 0 else 1
theorem mW {G:Gp}{k c:List Int}(h:gB G k c=true):aK G=true/\k.length=G.nodes.length/\US k=true/\aY c (ids G)=true:=by simpa[gB,and_assoc] using h
theorem uM (gray:List Int)(l l':List Nd):ptrs gray (l++l')=ptrs gray l++ptrs gray l':=by simp[ptrs]
theorem jN (gray:List Int)(n:Nd):ptrs gray [n]=if Rt.hasB gray n.id then n.out else []:=by unfold ptrs;cases h:Rt.hasB gray n.id <;> simp[h]
section
variable {G:Gp}{k gray:List Int}{j:Nat}{x:Nd}{c:Int}
theorem take_snoc {α:Type}{l:List α}{a:α}(h:l[j]?=some a):l.take (j+1)=l.take j++[a]:=by obtain⟨hj,rfl⟩:=aC.1 h;exact aeU hj
theorem zK:∀ (l:List Nd) (k:List Int) (z:Int),z ∉ l.map Nd.id->Bv (l.zip k) z=0
 | [],k,z,_=>by simp[Bv]
 | n::r,[],z,_=>by simp[Bv]
 | n::r,c::k,z,h=>by
  simp only[afc,aev,not_or] at h;simp only[List.zip_cons_cons,Bv];rw[if_neg (λe=>h.1 e.symm),zK r k z h.2];rfl
theorem KQ:∀ (l:List Nd) (k:List Int) (j:Nat) (x:Nd) (c:Int),(l.map Nd.id).Pairwise (·<·)->l[j]?=some x->k[j]?=some c->Bv (l.zip k) x.id=c
 | n::r,d::k,0,x,c,hp,h1,h2=>by
  simp at h1 h2;subst h1 h2;simp only[afc,afe] at hp;simp only[List.zip_cons_cons,Bv,if_true];rw[zK r k n.id (λh=>by have:=hp.1 _ h;omega)];omega
 | n::r,d::k,j+1,x,c,hp,h1,h2=>by
  simp only[afc,afe] at hp;simp only[List.getElem?_cons_succ] at h1 h2;have hm:x.id ∈ r.map Nd.id:=ae6.2 ⟨x,aE h1,rfl⟩;have:=hp.1 _ hm;simp only[List.zip_cons_cons,Bv];rw[if_neg (by omega),KQ r k j x c hp.2 h1 h2];omega
theorem EB (hr:Ri G)(hx:G.nodes[j]?=some x)(hc:k[j]?=some c):QO G k gray x.id=c - ((ptrs gray G.nodes).count x.id:Int):=by unfold QO;rw[KQ G.nodes k j x c hr.inc hx hc]
theorem wrap_in (a c:Int):wrap64 (wrap64 a+c)=wrap64 (a+c):=wrap64_add a c
theorem EC (a c:Int):wrap64 (wrap64 a - c)=wrap64 (a - c):=by unfold wrap64;omega
end

theorem Tryz.zeroIntT (w:av):(zeroValue 3).run prog w = .ok (Z ag 0) w:=by kernel_rfl
theorem tight {H:Type}{P:Program}{k:TypeId}{R:az->Option (DataW H × List MemPlace)}{w:av}{b n:Nat}{D:DataW H}(h:w.ownsMap P k R b n D):w.ownsMap P k R b (Maps.size D) D:=by obtain⟨es,clock,hb,F,_,rfl⟩:=h;exact⟨es,clock,hb,F,by simp[Maps.size,length_sorted],rfl⟩
end Tr
end
end Go.Proofs.YtdhgpmndgcggfaaGreatDoor
