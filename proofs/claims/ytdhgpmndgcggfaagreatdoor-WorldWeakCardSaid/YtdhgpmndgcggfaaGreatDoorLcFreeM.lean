/- The document's Begin. Plain words for a list of free cells: what holds of it, and of the document's beside it. Take and Give, the program's and the document's, each by one function of the state. One list, by one state; alive. -/
import Derived.Test.YtdhgpmndgcggfaaGreatDoorLcFreeB
import Derived.Deep.DrawnRows
import Derived.StillTailTactics
import Derived.Test.YtdhgpmndgcggfaaGreatDoorLcConf
import Derived.Test.YtdhgpmndgcggfaaGreatDoorLcFreeA
namespace Go.Proofs.YtdhgpmndgcggfaaGreatDoor
open Go.RowKit
attribute [local go_sem ↓] Go.wp_at_zero Go.wp_at_succ
end Go.Proofs.YtdhgpmndgcggfaaGreatDoor
namespace Go.Proofs.YtdhgpmndgcggfaaGreatDoor
open Go.RowKit
def St.s (z:St):Int:=if z.t=true then 1 else if z.g=4294967295 then 2 else 0
def St.fr (k:Int)(z:St):Bool:=z.c == k && !z.t && z.g != 4294967295
def St.any (z:St):Bool:=!z.t && z.g != 4294967295
structure Inv (x:Sh)(cs:List St)(p:Nat→List Int):Prop where
 len:cs.length=x.n
 cell:∀ (i:Nat) (z:St),cs[i]?=some z→z.c=x.cz i∧(0≤z.c∧z.c<3)∧1≤z.g∧z.g≤4294967295∧(z.t=true→z.g<4294967295)
 mem:∀ k,k<3→∀ y ∈ p k,∃ (i:Nat) (z:St),y=i∧cs[i]?=some z∧z.c=k∧z.t=false∧z.g<4294967295
 nodup:∀ k,k<3→(p k).Nodup
 cnt:∀ k,k<3→(p k).length=cs.countP (St.fr k)
structure Sim (x:Sh)(cs:List St)(p:Nat→List Int)(pl:List Int):Prop where
 inv:Inv x cs p
 pile:∀ k,k<3→p k=pl.filter (fun y=>x.cz y == (k:Int))
 rng:∀ y ∈ pl,∃ i:Nat,y=i∧i<cs.length
 plen:pl.length=cs.countP St.any
theorem countP_put {q:St→Bool}:∀ (l:List St) (i:Nat) (z z':St),l[i]?=some z→(l.set i z').countP q+(if q z=true then 1 else 0)=l.countP q+(if q z'=true then 1 else 0)
 | y::l,0,z,z',h=>by
  simp only [List.getElem?_cons_zero,Option.some.injEq] at h
  subst h
  simp only [List.set_cons_zero,List.countP_cons]
  omega
 | y::l,i+1,z,z',h=>by
  have:=countP_put (q:=q) l i z z' (by simpa using h)
  simp only [List.set_cons_succ,List.countP_cons]
  omega
theorem at_set {l:List St}{i:Nat}{z z':St}(h:l[i]?=some z)(j:Nat):(l.set i z')[j]?=if i=j then some z' else l[j]?:=by
 have hi:=(List.getElem?_eq_some_iff.1 h).1
 rw [List.getElem?_set]
 by_cases e:i=j
 ·subst e;simp [hi]
 ·simp [e]
section
variable {x:Sh}{cs:List St}{p:Nat→List Int}{pl:List Int}
theorem Inv.small (h:Inv x cs p){k:Nat}(hk:k<3):(p k).length≤cs.length:=by rw [h.cnt k hk];exact List.countP_le_length
theorem fr_no {k:Int}{z:St}(h:z.t=true∨z.g=4294967295∨z.c≠k):St.fr k z=false:=by
 unfold St.fr
 rcases h with h | h | h
 ·simp [h]
 ·simp [h]
 ·have:(z.c == k)=false:=by simpa using h
  simp [this]
theorem fr_yes {k:Int}{z:St}(h1:z.c=k)(h2:z.t=false)(h3:z.g<4294967295):St.fr k z=true:=by
 have:(z.g != 4294967295)=true:=by simp;omega
 simp [St.fr,h1,h2,this]
theorem Inv.take (h:Inv x cs p){k i:Nat}(hk:k<3){M:List Int}{z:St}(hp:p k=M++[(i:Int)])(hz:cs[i]?=some z):Inv x (cs.set i ⟨z.c,z.g,true⟩) (upd p k M):=by
 obtain⟨i',z',e,hz',hc,ht,hg⟩:=h.mem k hk i (by rw [hp];simp)
 obtain rfl:i=i':=by omega
 obtain rfl:z=z':=Option.some.inj (hz.symm.trans hz')
 have hcl:=h.cell i z hz
 have hnd:=h.nodup k hk
 rw [hp,List.nodup_append] at hnd
 refine⟨by rw [List.length_set];exact h.len,fun j y hy=>?_,fun m hm y hy=>?_,fun m hm=>?_,fun m hm=>?_⟩
 ·rw [at_set hz] at hy
  by_cases e:i=j
  ·rw [if_pos e] at hy
   obtain rfl:=Option.some.inj hy
   subst e
   exact⟨hcl.1,hcl.2.1,hcl.2.2.1,hcl.2.2.2.1,fun _=>hg⟩
  ·rw [if_neg e] at hy
   exact h.cell j y hy
 ·have key:∃ (j:Nat) (y':St),y=j∧cs[j]?=some y'∧y'.c=m∧y'.t=false∧y'.g<4294967295∧i≠j:=by
   by_cases e:m=k
   ·subst e
    rw [upd_same] at hy
    obtain⟨j,y',e1,e2,e3,e4,e5⟩:=h.mem m hm y (by rw [hp];simp [hy])
    refine⟨j,y',e1,e2,e3,e4,e5,fun e=>?_⟩
    subst e
    exact hnd.2.2 y hy (i:Int) (by simp) e1
   ·rw [upd_ne _ _ e] at hy
    obtain⟨j,y',e1,e2,e3,e4,e5⟩:=h.mem m hm y hy
    refine⟨j,y',e1,e2,e3,e4,e5,fun e'=>?_⟩
    subst e'
    have:=Option.some.inj (hz.symm.trans e2)
    subst this
    omega
  obtain⟨j,y',e1,e2,e3,e4,e5,e6⟩:=key
  exact⟨j,y',e1,by rw [at_set hz,if_neg e6];exact e2,e3,e4,e5⟩
 ·by_cases e:m=k
  ·subst e;rw [upd_same];exact hnd.1
  ·rw [upd_ne _ _ e];exact h.nodup m hm
 ·have hset:=countP_put (q:=St.fr m) cs i z ⟨z.c,z.g,true⟩ hz
  rw [fr_no (z:=⟨z.c,z.g,true⟩) (Or.inl rfl)] at hset
  have hcm:=h.cnt m hm
  by_cases e:m=k
  ·subst e
   rw [upd_same]
   rw [fr_yes hc ht hg] at hset
   rw [hp] at hcm
   simp at hset hcm
   omega
  ·rw [upd_ne _ _ e]
   rw [fr_no (Or.inr (Or.inr (by omega)))] at hset
   simp at hset
   omega
theorem Inv.back (h:Inv x cs p){k i:Nat}(hk:k<3){z:St}(hz:cs[i]?=some z)(hc:z.c=k)(ht:z.t=true)(hg:z.g<4294967294):Inv x (cs.set i ⟨z.c,z.g+1,false⟩) (upd p k (p k++[(i:Int)])):=by
 have hcl:=h.cell i z hz
 have out:∀ m,m<3→∀ y ∈ p m,∃ (j:Nat) (y':St),y=j∧cs[j]?=some y'∧y'.c=m∧y'.t=false∧y'.g<4294967295∧i≠j:=fun m hm y hy=>by
  obtain⟨j,y',e1,e2,e3,e4,e5⟩:=h.mem m hm y hy
  refine⟨j,y',e1,e2,e3,e4,e5,fun e=>?_⟩
  subst e
  have:=Option.some.inj (hz.symm.trans e2)
  subst this
  rw [ht] at e4
  cases e4
 refine⟨by rw [List.length_set];exact h.len,fun j y hy=>?_,fun m hm y hy=>?_,fun m hm=>?_,fun m hm=>?_⟩
 ·rw [at_set hz] at hy
  by_cases e:i=j
  ·rw [if_pos e] at hy
   obtain rfl:=Option.some.inj hy
   subst e
   exact⟨hcl.1,hcl.2.1,by simp;omega,by simp;omega,by simp⟩
  ·rw [if_neg e] at hy
   exact h.cell j y hy
 ·have old:y ∈ p m→∃ (j:Nat) (y':St),y=j∧(cs.set i ⟨z.c,z.g+1,false⟩)[j]?=some y'∧y'.c=m∧y'.t=false∧y'.g<4294967295:=fun hy=>by
   obtain⟨j,y',e1,e2,e3,e4,e5,e6⟩:=out m hm y hy
   exact⟨j,y',e1,by rw [at_set hz,if_neg e6];exact e2,e3,e4,e5⟩
  by_cases e:m=k
  ·subst e
   rw [upd_same] at hy
   rcases List.mem_append.1 hy with hy | hy
   ·exact old hy
   ·obtain rfl:y=i:=by simpa using hy
    exact⟨i,⟨z.c,z.g+1,false⟩,rfl,by rw [at_set hz,if_pos rfl],hc,rfl,by simp;omega⟩
  ·rw [upd_ne _ _ e] at hy
   exact old hy
 ·by_cases e:m=k
  ·subst e
   rw [upd_same,List.nodup_append]
   refine⟨h.nodup m hm,by simp,fun y hy y' hy' e=>?_⟩
   obtain rfl:y'=i:=by simpa using hy'
   obtain⟨j,_,e1,_,_,_,_,e6⟩:=out m hm y hy
   omega
  ·rw [upd_ne _ _ e];exact h.nodup m hm
 ·have hset:=countP_put (q:=St.fr m) cs i z ⟨z.c,z.g+1,false⟩ hz
  rw [fr_no (z:=z) (Or.inl ht)] at hset
  have hcm:=h.cnt m hm
  by_cases e:m=k
  ·subst e
   rw [upd_same,List.length_append]
   rw [fr_yes (z:=⟨z.c,z.g+1,false⟩) hc rfl (by simp;omega)] at hset
   simp at hset ⊢
   omega
  ·rw [upd_ne _ _ e]
   rw [fr_no (z:=⟨z.c,z.g+1,false⟩) (Or.inr (Or.inr (by simp;omega)))] at hset
   simp at hset
   omega
theorem Inv.gone (h:Inv x cs p){i:Nat}{z:St}(hz:cs[i]?=some z)(ht:z.t=true):Inv x (cs.set i ⟨z.c,4294967295,false⟩) p:=by
 have hcl:=h.cell i z hz
 refine⟨by rw [List.length_set];exact h.len,fun j y hy=>?_,fun m hm y hy=>?_,h.nodup,fun m hm=>?_⟩
 ·rw [at_set hz] at hy
  by_cases e:i=j
  ·rw [if_pos e] at hy
   obtain rfl:=Option.some.inj hy
   subst e
   exact⟨hcl.1,hcl.2.1,by simp,by simp,by simp⟩
  ·rw [if_neg e] at hy
   exact h.cell j y hy
 ·obtain⟨j,y',e1,e2,e3,e4,e5⟩:=h.mem m hm y hy
  refine⟨j,y',e1,?_,e3,e4,e5⟩
  rw [at_set hz,if_neg (fun e=>?_)]
  ·exact e2
  ·subst e
   have:=Option.some.inj (hz.symm.trans e2)
   subst this
   rw [ht] at e4
   cases e4
 ·have hset:=countP_put (q:=St.fr m) cs i z ⟨z.c,4294967295,false⟩ hz
  rw [fr_no (z:=z) (Or.inl ht),fr_no (z:=⟨z.c,4294967295,false⟩) (Or.inr (Or.inl rfl))] at hset
  simp at hset
  rw [h.cnt m hm,hset]
theorem any_yes {z:St}(h2:z.t=false)(h3:z.g<4294967295):z.any=true:=by
 have:(z.g != 4294967295)=true:=by simp;omega
 simp [St.any,h2,this]
end
theorem revR_mem {n i:Nat}{y:Int}(h:y ∈ revR n i)(hi:i≤n):∃ j:Nat,y=j∧n - i≤j∧j<n:=by
 induction i with
 | zero=>simp [revR] at h
 | succ i ih =>
  rw [revR,List.mem_append] at h
  rcases h with h | h
  ·obtain⟨j,e1,e2,e3⟩:=ih h (by omega)
   exact⟨j,e1,by omega,e3⟩
  ·have:y=(n:Int) - 1 - i:=by simpa using h
   exact⟨n - 1 - i,by omega,by omega,by omega⟩
theorem revR_nodup (n:Nat):∀ i,i≤n→(revR n i).Nodup
 | 0,_=>by simp [revR]
 | i+1,hi=>by
  rw [revR,List.nodup_append]
  refine⟨revR_nodup n i (by omega),by simp,fun y hy y' hy' e=>?_⟩
  have:y'=(n:Int) - 1 - i:=by simpa using hy'
  obtain⟨j,e1,e2,e3⟩:=revR_mem hy (by omega)
  omega
theorem whole_cnt (cs:List St)(k:Int):∀ i,i≤cs.length→(wholeL cs k i).length=(cs.drop (cs.length - i)).countP (fun z=>z.c == k)
 | 0,_=>by simp [wholeL,revR]
 | i+1,hi=>by
  have ih:=whole_cnt cs k i (by omega)
  have hq:cs.length - 1 - i<cs.length:=by omega
  obtain⟨z,hz⟩:∃ z,cs[cs.length - 1 - i]?=some z:=⟨_,List.getElem?_eq_getElem hq⟩
  have e:cs.drop (cs.length - (i+1))=z::cs.drop (cs.length - i):=by
   have e1:cs.length - (i+1)=cs.length - 1 - i:=by omega
   have e2:cs.length - i=cs.length - 1 - i+1:=by omega
   rw [e1,e2,List.drop_eq_getElem_cons hq]
   congr 1
   exact (List.getElem?_eq_some_iff.1 hz).2
  rw [e,List.countP_cons,← ih]
  cases hc:z.c == k
  ·rw [whole_no cs k i z (by omega) hz hc];simp
  ·rw [whole_yes cs k i z (by omega) hz hc];simp
theorem cz_in (x:Sh)(hm:x.may=true)(i:Nat)(hi:i<x.n):0≤x.cz i∧x.cz i<3:=by
 have h':mayB x.a x.b x.c x.q x.s=true:=hm
 obtain⟨ha,hb,hc,_,_⟩:=mayB_iff.1 h'
 unfold Sh.n at hi
 unfold Sh.cz classZ
 rw [if_pos ⟨h',by omega⟩]
 split
 ·omega
 ·split
  ·omega
  ·split
   ·omega
   ·omega
theorem sim_start (x:Sh)(hm:x.may=true):Sim x (csTo x.cz x.s x.n x.n) (fun k=>wholeL (csTo x.cz x.s x.n x.n) k x.n) (revR x.n x.n):=by
 have h':mayB x.a x.b x.c x.q x.s=true:=hm
 obtain⟨_,_,_,_,hs⟩:=mayB_iff.1 h'
 have hat:∀ j:Nat,j<x.n→(csTo x.cz x.s x.n x.n)[j]?=some ⟨x.cz j,x.s,false⟩:=fun j hj=>by rw [csTo_at _ _ _ _ _ hj,if_pos hj]
 have hin:∀ (j:Nat) (z:St),(csTo x.cz x.s x.n x.n)[j]?=some z→z=⟨x.cz j,x.s,false⟩∧j<x.n:=fun j z hz=>by
  have hj:j<x.n:=by have:=(List.getElem?_eq_some_iff.1 hz).1;rwa [csTo_length] at this
  exact⟨(Option.some.inj ((hat j hj).symm.trans hz)).symm,hj⟩
 have hlen:=csTo_length x.cz x.s x.n x.n
 have hhit:∀ k:Int,∀ y ∈ revR x.n x.n,hitC (csTo x.cz x.s x.n x.n) k y=(x.cz y == k):=fun k y hy=>by
  obtain⟨j,rfl,_,hj⟩:=revR_mem hy (Nat.le_refl _)
  simp [hitC,hat j hj]
 have hall:∀ (q:St→Bool),(∀ z ∈ csTo x.cz x.s x.n x.n,q z=true ↔ z.any=true)→(csTo x.cz x.s x.n x.n).countP q=(csTo x.cz x.s x.n x.n).countP St.any:=fun q hq=>List.countP_congr hq
 refine⟨⟨hlen,fun i z hz=>?_,fun k hk y hy=>?_,fun k hk=>?_,fun k hk=>?_⟩,fun k hk=>?_,fun y hy=>?_,?_⟩
 ·obtain⟨rfl,hi⟩:=hin i z hz
  exact⟨rfl,cz_in x hm i hi,by simp;omega,by simp;omega,by simp⟩
 ·have hy1:y ∈ revR x.n x.n:=by
   have:=(List.mem_filter.1 (show y ∈ (revR (csTo x.cz x.s x.n x.n).length x.n).filter _ from hy)).1
   rwa [hlen] at this
  have hy2:hitC (csTo x.cz x.s x.n x.n) k y=true:=(List.mem_filter.1 (show y ∈ (revR (csTo x.cz x.s x.n x.n).length x.n).filter _ from hy)).2
  rw [hhit k y hy1] at hy2
  obtain⟨j,rfl,_,hj⟩:=revR_mem hy1 (Nat.le_refl _)
  exact⟨j,_,rfl,hat j hj,by simpa using hy2,rfl,by simp;omega⟩
 ·show (wholeL _ _ _).Nodup
  unfold wholeL
  rw [hlen]
  exact (revR_nodup _ _ (Nat.le_refl _)).filter _
 ·show (wholeL _ _ _).length=_
  rw [whole_cnt _ _ _ (by rw [hlen];exact Nat.le_refl _),hlen,Nat.sub_self,List.drop_zero]
  apply List.countP_congr
  intro z hz
  obtain⟨i,hi⟩:=List.mem_iff_getElem?.1 hz
  obtain⟨rfl,_⟩:=hin i z hi
  have:(x.s != 4294967295)=true:=by simp;omega
  simp [St.fr,this]
 ·show wholeL _ _ _=_
  unfold wholeL
  rw [hlen]
  exact List.filter_congr (fun y hy=>hhit k y hy)
 ·obtain⟨j,e,_,hj⟩:=revR_mem hy (Nat.le_refl _)
  exact⟨j,e,by rw [hlen];exact hj⟩
 ·rw [revR_length,← hall (fun _=>true) (fun z hz=>?_)]
  ·simp [hlen]
  ·obtain⟨i,hi⟩:=List.mem_iff_getElem?.1 hz
   obtain⟨rfl,_⟩:=hin i z hi
   rw [any_yes (z:=⟨x.cz i,x.s,false⟩) rfl (by simp;omega)]
end Go.Proofs.YtdhgpmndgcggfaaGreatDoor
namespace Go.Proofs.YtdhgpmndgcggfaaGreatDoor
open Go.RowKit
def tkV (p:Nat→List Int)(n:Int):Int:=if inN n 3=true then (p n.toNat).getLast?.getD 0 else 0
def tkE (p:Nat→List Int)(n:Int):Int:=if inN n 3=true then (if (p n.toNat).isEmpty=true then 8 else 0) else 1
def setT (cs:List St)(i:Nat):List St:=match cs[i]? with | some z=>cs.set i ⟨z.c,z.g,true⟩ | none=>cs
def tkC (cs:List St)(p:Nat→List Int)(n:Int):List St:=if inN n 3=true then (match (p n.toNat).getLast? with | some i=>setT cs i.toNat | none=>cs) else cs
def tkP (p:Nat→List Int)(n:Int):Nat→List Int:=if inN n 3=true then upd p n.toNat (p n.toNat).dropLast else p
def stAt (cs:List St)(n:Int):St:=cs[n.toNat]?.getD ⟨0,0,false⟩
def gvOk (cs:List St)(n:Int):Bool:=inN n cs.length && (stAt cs n).t
def gvLast (cs:List St)(n:Int):Bool:=gvOk cs n && (stAt cs n).g == 4294967294
def gvE (cs:List St)(n:Int):Int:=if inN n cs.length=true then (if (stAt cs n).t=true then 0 else 9) else 1
def gvC (cs:List St)(n:Int):List St:=if gvOk cs n=true then cs.set n.toNat ⟨(stAt cs n).c,(stAt cs n).g+1,false⟩ else cs
def gvP (cs:List St)(p:Nat→List Int)(n:Int):Nat→List Int:=if (gvOk cs n && !gvLast cs n)=true then upd p (stAt cs n).c.toNat (p (stAt cs n).c.toNat++[n]) else p
theorem upd_self {α:Type}(f:Nat→α)(k:Nat):upd f k (f k)=f:=by
 funext j
 unfold upd
 by_cases e:j=k <;> simp [e]
section
variable {cs:List St}{p:Nat→List Int}
theorem tk_arg {n:Int}(h:inN n 3=false):tkV p n=0∧tkE p n=1∧tkC cs p n=cs∧tkP p n=p:=by simp [tkV,tkE,tkC,tkP,h]
theorem tk_full {k:Nat}(hk:k<3)(hp:p k=[]):tkV p k=0∧tkE p k=8∧tkC cs p k=cs∧tkP p k=p:=by
 have hi:inN (k:Int) 3=true:=inN_t (by omega)
 refine⟨by simp [tkV,hi,hp],by simp [tkE,hi,hp],by simp [tkC,hi,hp],?_⟩
 simp only [tkP,hi,if_true,Int.toNat_natCast]
 rw [hp]
 show upd p k []=p
 rw [← hp,upd_self]
theorem tk_top {k i:Nat}{M:List Int}{z:St}(hk:k<3)(hp:p k=M++[(i:Int)])(hz:cs[i]?=some z):tkV p k=i∧tkE p k=0∧tkC cs p k=cs.set i ⟨z.c,z.g,true⟩∧tkP p k=upd p k M:=by
 have hi:inN (k:Int) 3=true:=inN_t (by omega)
 refine⟨by simp [tkV,hi,hp],by simp [tkE,hi,hp],by simp [tkC,hi,hp,setT,hz],by simp [tkP,hi,hp]⟩
theorem gv_arg {n:Int}(h:inN n cs.length=false):gvLast cs n=false∧gvE cs n=1∧gvC cs n=cs∧gvP cs p n=p:=by simp [gvLast,gvE,gvC,gvP,gvOk,h]
theorem gv_none {i:Nat}{z:St}(hz:cs[i]?=some z)(ht:z.t=false):gvLast cs i=false∧gvE cs i=9∧gvC cs i=cs∧gvP cs p i=p:=by
 have hi:inN (i:Int) cs.length=true:=inN_t (by have:=(List.getElem?_eq_some_iff.1 hz).1;omega)
 have hs:stAt cs (i:Int)=z:=by simp [stAt,hz]
 simp [gvLast,gvE,gvC,gvP,gvOk,hi,hs,ht]
theorem gv_gone {i:Nat}{z:St}(hz:cs[i]?=some z)(ht:z.t=true)(hg:z.g=4294967294):gvLast cs i=true∧gvE cs i=0∧gvC cs i=cs.set i ⟨z.c,4294967295,false⟩∧gvP cs p i=p:=by
 have hi:inN (i:Int) cs.length=true:=inN_t (by have:=(List.getElem?_eq_some_iff.1 hz).1;omega)
 have hs:stAt cs (i:Int)=z:=by simp [stAt,hz]
 simp [gvLast,gvE,gvC,gvP,gvOk,hi,hs,ht,hg]
theorem gv_back {i k:Nat}{z:St}(hz:cs[i]?=some z)(ht:z.t=true)(hc:z.c=k)(hg:z.g<4294967294):gvLast cs i=false∧gvE cs i=0∧gvC cs i=cs.set i ⟨z.c,z.g+1,false⟩∧gvP cs p i=upd p k (p k++[(i:Int)]):=by
 have hi:inN (i:Int) cs.length=true:=inN_t (by have:=(List.getElem?_eq_some_iff.1 hz).1;omega)
 have hs:stAt cs (i:Int)=z:=by simp [stAt,hz]
 have hge:(z.g == 4294967294)=false:=by simp;omega
 simp [gvLast,gvE,gvC,gvP,gvOk,hi,hs,ht,hge,hc]
theorem take_cases (p:Nat→List Int)(n:Int):inN n 3=false∨∃ k:Nat,n=k∧k<3∧(p k=[]∨∃ M i,p k=M++[i]):=by
 cases h:inN n 3
 ·exact Or.inl rfl
 ·have:=inN_in h
  refine Or.inr ⟨n.toNat,by omega,by omega,?_⟩
  rcases List.eq_nil_or_concat (p n.toNat) with e | ⟨M,i,e⟩
  ·exact Or.inl e
  ·exact Or.inr ⟨M,i,by rw [e];simp⟩
theorem give_cases {x:Sh}(h:Inv x cs p)(n:Int):inN n cs.length=false∨∃ (i:Nat) (z:St),n=i∧cs[i]?=some z∧(z.t=false∨z.t=true∧(z.g=4294967294∨z.g<4294967294∧0≤z.g∧∃ k:Nat,z.c=k∧k<3)):=by
 cases hn:inN n cs.length
 ·exact Or.inl rfl
 ·have:=inN_in hn
  obtain⟨z,hz⟩:∃ z,cs[n.toNat]?=some z:=⟨_,List.getElem?_eq_getElem (by omega)⟩
  have hcl:=h.cell _ z hz
  refine Or.inr ⟨n.toNat,z,by omega,hz,?_⟩
  cases ht:z.t
  ·exact Or.inl rfl
  ·have:=hcl.2.2.2.2 ht
   by_cases hg:z.g=4294967294
   ·exact Or.inr ⟨rfl,Or.inl hg⟩
   ·exact Or.inr ⟨rfl,Or.inr ⟨by omega,by omega,z.c.toNat,by omega,by omega⟩⟩
theorem Inv.tk {x:Sh}(h:Inv x cs p)(n:Int):Inv x (tkC cs p n) (tkP p n):=by
 rcases take_cases p n with hn | ⟨k,rfl,hk,hp | ⟨M,i,hp⟩⟩
 ·obtain⟨_,_,e3,e4⟩:=tk_arg (cs:=cs) (p:=p) hn
  rw [e3,e4];exact h
 ·obtain⟨_,_,e3,e4⟩:=tk_full (cs:=cs) hk hp
  rw [e3,e4];exact h
 ·obtain⟨i',z,rfl,hz,_⟩:=h.mem k hk i (by rw [hp];simp)
  obtain⟨_,_,e3,e4⟩:=tk_top hk hp hz
  rw [e3,e4];exact h.take hk hp hz
theorem Inv.gv {x:Sh}(h:Inv x cs p)(n:Int):Inv x (gvC cs n) (gvP cs p n):=by
 rcases give_cases h n with hn | ⟨i,z,rfl,hz,ht | ⟨ht,hg | ⟨hg,_,k,hc,hk⟩⟩⟩
 ·obtain⟨_,_,e3,e4⟩:=gv_arg (p:=p) hn
  rw [e3,e4];exact h
 ·obtain⟨_,_,e3,e4⟩:=gv_none (p:=p) hz ht
  rw [e3,e4];exact h
 ·obtain⟨_,_,e3,e4⟩:=gv_gone (p:=p) hz ht hg
  rw [e3,e4];exact h.gone hz ht
 ·obtain⟨_,_,e3,e4⟩:=gv_back (p:=p) hz ht hc hg
  rw [e3,e4];exact h.back hk hz hc ht hg
end
section
variable {w:World}{hb cb:Nat}{v:Nat→Value}{cs:List St}{p:Nat→List Int}{x:Sh}
theorem foot_upd {k:Nat}{v':Value}{w:World}(h:∀ g,v'.ownBlock=some g→(v k).ownBlock=some g∨w.heap.size≤g)(hk:k<3):∀ g ∈ frFoot hb cb (upd v k v'),g ∈ frFoot hb cb v∨w.heap.size≤g:=by
 intro g hg
 rcases mem_frFoot.1 hg with rfl | rfl | ⟨j,hj,hg⟩
 ·exact Or.inl (mem_frFoot.2 (by simp))
 ·exact Or.inl (mem_frFoot.2 (by simp))
 ·by_cases e:j=k
  ·subst e
   rw [upd_same] at hg
   exact (h g hg).imp (fun e=>mem_frFoot.2 (Or.inr (Or.inr ⟨j,hk,e⟩))) id
  ·rw [upd_ne _ _ e] at hg
   exact Or.inl (mem_frFoot.2 (Or.inr (Or.inr ⟨j,hj,hg⟩)))
theorem only_two {w':World}(ho:Only [hb,cb] w w'):Only (frFoot hb cb v) w w':=ho.more fun k hk=>Or.inl (mem_frFoot.2 (by simp at hk;rcases hk with h | h <;> simp [h]))
theorem take_is (n:Int)(h:FrIn w hb cb v cs p)(hi:Inv x cs p) :
  Calls Tryz.prog 275 #[.pointer (some ⟨hb,0,none⟩),.int .i64 n] w fun e w'=>e = .returned (.tuple #[.int .i64 (tkV p n),.int .i64 (tkE p n)]) ∧
   ∃ v',FrIn w' hb cb v' (tkC cs p n) (tkP p n)∧Only (frFoot hb cb v) w w'∧(∀ g ∈ frFoot hb cb v',g ∈ frFoot hb cb v∨w.heap.size≤g):=by
 rcases take_cases p n with hn | ⟨k,rfl,hk,hp | ⟨M,i,hp⟩⟩
 ·obtain⟨e1,e2,e3,e4⟩:=tk_arg (cs:=cs) (p:=p) hn
  rw [e1,e2,e3,e4]
  exact (take_arg n hb w hn).mono fun e w' ⟨he,hw⟩=>by subst hw;exact⟨he,v,h,Only.refl _ _,fun g hg=>Or.inl hg⟩
 ·obtain⟨e1,e2,e3,e4⟩:=tk_full (cs:=cs) hk hp
  rw [e1,e2,e3,e4]
  exact (take_full k hk h hp).mono fun e w' ⟨he,hw⟩=>by subst hw;exact⟨he,v,h,Only.refl _ _,fun g hg=>Or.inl hg⟩
 ·obtain⟨i',z,rfl,hz,_⟩:=hi.mem k hk i (by rw [hp];simp)
  obtain⟨e1,e2,e3,e4⟩:=tk_top hk hp hz
  rw [e1,e2,e3,e4]
  exact (take_top k i' hk h M z hp hz).mono fun e w' ⟨he,v',hF,hown,ho⟩=>⟨he,_,hF,only_two ho,foot_upd (fun g hg=>Or.inl (by rw [← hown];exact hg)) hk⟩
theorem give_is (n:Int)(h:FrIn w hb cb v cs p)(hi:Inv x cs p) :
  Calls Tryz.prog 324 #[.pointer (some ⟨hb,0,none⟩),.int .i64 n] w fun e w'=>e = .returned (.tuple #[.bool (gvLast cs n),.int .i64 (gvE cs n)]) ∧
   ∃ v',FrIn w' hb cb v' (gvC cs n) (gvP cs p n)∧Only (frFoot hb cb v) w w'∧(∀ g ∈ frFoot hb cb v',g ∈ frFoot hb cb v∨w.heap.size≤g):=by
 rcases give_cases hi n with hn | ⟨i,z,rfl,hz,ht | ⟨ht,hg | ⟨hg,hg0,k,hc,hk⟩⟩⟩
 ·obtain⟨e1,e2,e3,e4⟩:=gv_arg (p:=p) hn
  rw [e1,e2,e3,e4]
  exact (give_arg n h hn).mono fun e w' ⟨he,hw⟩=>by subst hw;exact⟨he,v,h,Only.refl _ _,fun g hg=>Or.inl hg⟩
 ·obtain⟨e1,e2,e3,e4⟩:=gv_none (p:=p) hz ht
  rw [e1,e2,e3,e4]
  exact (give_none i z h hz ht).mono fun e w' ⟨he,hw⟩=>by subst hw;exact⟨he,v,h,Only.refl _ _,fun g hg=>Or.inl hg⟩
 ·obtain⟨e1,e2,e3,e4⟩:=gv_gone (p:=p) hz ht hg
  rw [e1,e2,e3,e4]
  exact (give_gone i z h hz ht hg).mono fun e w' ⟨he,hF,ho⟩=>⟨he,v,hF,only_two ho,fun g hg=>Or.inl hg⟩
 ·obtain⟨e1,e2,e3,e4⟩:=gv_back (p:=p) hz ht hc hg
  rw [e1,e2,e3,e4]
  exact (give_back i k hk z h hz ht hc hg0 hg (by have:=hi.small hk;have:=h.len;omega)).mono fun e w' ⟨he,v',hF,ho,hat⟩=>⟨he,_,hF,ho,foot_upd hat hk⟩
end
end Go.Proofs.YtdhgpmndgcggfaaGreatDoor
namespace Go.Proofs.YtdhgpmndgcggfaaGreatDoor
open Go.RowKit
def c0 (x:Sh):List St:=csTo x.cz x.s x.n x.n
def p0 (x:Sh):Nat→List Int:=fun k=>wholeL (c0 x) k x.n
end Go.Proofs.YtdhgpmndgcggfaaGreatDoor
