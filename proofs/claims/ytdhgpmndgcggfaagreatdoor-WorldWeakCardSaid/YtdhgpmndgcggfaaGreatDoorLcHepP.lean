/- Plain words for a heap: its state, what each call answers and leaves, and what holds of it. What holds of a heap holds behind each call. What holds of a heap holds behind each cell that is drained; the budget. Plain: the graph of a heap; what is counted. Plain: what is covered stays covered. -/
import Derived.Test.YtdhgpmndgcggfaaGreatDoorLcCellD
import Derived.Test.YtdhgpmndgcggfaaGreatDoorLcQue
import Derived.Test.YtdhgpmndgcggfaaGreatDoorLcRoot
import Derived.Test.YtdhgpmndgcggfaaGreatDoorLcGra
namespace Go.Proofs.YtdhgpmndgcggfaaGreatDoor
namespace Hp
open Go.RowKit
structure Hs where
 cs:List St
 p:Nat→List Int
 ct:List Int
 vs:List (List Vl)
 u:Int
 r:List Int
 k:List Int
 q:List Int
 ch:Int
def ptrs (l:List Vl):List Int:=(l.filter (fun y=>y.k == 2)).map Vl.n
def allV (vs:List (List Vl)):List Int:=vs.flatMap ptrs
def Hs.all (s:Hs):List Int:=allV s.vs++(s.r++s.q)
def Hs.outs (s:Hs)(n:Int):List Int:=ptrs (s.vs[n.toNat]?.getD [])
def tick (c:Int):Int:=wrap64 (c+1)
def szOf (z:St):Int:=if z.t=true then sizeZ z.c else 0
def usedL (cs:List St):Int:=(cs.map szOf).sum
def liE (x:Sh)(s:Hs)(n:Int):Int:=if inN n x.n=true then (if takenZ s.cs n=true then 0 else 9) else 1
def alE (x:Sh)(s:Hs)(n:Int):Int:=if sizeZ n=0 then 1 else if x.q - s.u<sizeZ n then 7 else tkE s.p n
def alV (x:Sh)(s:Hs)(n:Int):Int:=if alE x s n=0 then tkV s.p n else 0
def alS (x:Sh)(s:Hs)(n:Int):Hs:=if alE x s n=0 then ⟨tkC s.cs s.p n,tkP s.p n,s.ct.set (tkV s.p n).toNat 1,s.vs,s.u+sizeZ n,Rt.addL (tkV s.p n) s.r,s.k,s.q,tick s.ch⟩ else s
def upE (s:Hs)(n:Int):Int:=if ctZ s.ct n=2147483647 then 8 else 0
def upC (s:Hs)(n:Int):List Int:=s.ct.set n.toNat (ctZ s.ct n+1)
def hoE (x:Sh)(s:Hs)(n:Int):Int:=if liE x s n=0 then (if Rt.hasB s.r n=true then 0 else upE s n) else liE x s n
def hoS (x:Sh)(s:Hs)(n:Int):Hs:=if liE x s n=0∧Rt.hasB s.r n=false∧upE s n=0 then { s with ct:=upC s n,r:=Rt.addL n s.r,ch:=tick s.ch } else s
def drE (x:Sh)(s:Hs)(n:Int):Int:=if inN n x.n=true then (if Rt.hasB s.r n=true then 0 else 9) else 1
def drS (x:Sh)(s:Hs)(n:Int):Hs:=if drE x s n=0 then { s with r:=Rt.dropL n s.r,q:=s.q++[n],ch:=tick s.ch } else s
def ptB (y:Vl):Bool:=y.k == 2
def fiE (x:Sh)(s:Hs)(n k:Int)(y:Vl):Int :=
 if (inS x n k && Wd.rightB y.k y.n && (!ptB y || inN y.n x.n))=true then (if (takenZ s.cs n && (!ptB y || takenZ s.cs y.n))=true then 0 else 9) else 1
def puE (x:Sh)(s:Hs)(n k:Int)(y:Vl):Int:=if fiE x s n k y=0 then (if ptB y=true then upE s y.n else 0) else fiE x s n k y
def rpS (s:Hs)(n k:Int)(y:Vl):Hs:={ s with vs:=s.vs.set n.toNat ((s.vs[n.toNat]?.getD []).set k.toNat y),q:=s.q++ptrs [vlAt s.vs n k] }
def puS (x:Sh)(s:Hs)(n k:Int)(y:Vl):Hs:=if puE x s n k y=0 then rpS { s with ct:=if ptB y=true then upC s y.n else s.ct,ch:=tick s.ch } n k y else s
def cutTo (s:Hs)(n:Int):Nat→Hs
 | 0=>s
 | j+1=>rpS (cutTo s n j) n j Vl.nil
def cuS (x:Sh)(s:Hs)(n:Int):Hs:=if liE x s n=0 then cutTo { s with ch:=tick s.ch } n (slX x n) else s
def fgS (s:Hs)(l:List Int):Hs:={ s with k:=l.foldl (fun k c=>Rt.dropL c k) s.k }
def diB (s:Hs):Bool:=ctZ s.ct (Qu.popA s.q) == Qu.popN s.q
def endS (x:Sh)(s:Hs)(n:Int):Hs:=⟨gvC s.cs n,gvP s.cs s.p n,frC s.cs s.ct n,frV x s.cs s.vs n,s.u - sizeZ (x.cz n),s.r,Rt.dropL n s.k,s.q++s.outs n,s.ch⟩
def loS (s:Hs)(n t:Int):Hs:={ s with ct:=s.ct.set n.toNat (ctZ s.ct n - t),k:=Rt.addL n s.k }
def oneS (x:Sh)(s:Hs):Hs :=
 if diB s=true then endS x { s with q:=Qu.popS s.q,ch:=tick s.ch } (Qu.popA s.q) else loS { s with q:=Qu.popS s.q,ch:=tick s.ch } (Qu.popA s.q) (Qu.popN s.q)
def dnS (x:Sh):Nat→Hs→Hs
 | 0,s=>s
 | n+1,s=>if Qu.popB s.q=true then dnS x n (oneS x s) else s
def dnN (x:Sh):Nat→Hs→Int
 | 0,_=>0
 | n+1,s=>if Qu.popB s.q=true then (if diB s=true then 1 else 0)+dnN x n (oneS x s) else 0
structure Ok (x:Sh)(s:Hs):Prop where
 may:x.may=true
 l1:s.cs.length=x.n
 l2:s.ct.length=x.n
 l3:s.vs.length=x.n
 inv:Inv x s.cs s.p
 rows:∀ (i:Nat) (l:List Vl),s.vs[i]?=some l→l.length=x.sl i
 vok:∀ (i:Nat) (l:List Vl),s.vs[i]?=some l→∀ y ∈ l,y.ok
 dead:∀ (i:Nat) (z:St),s.cs[i]?=some z→z.t=false→s.ct[i]?=some 0∧s.vs[i]?=some (nils (x.sl i))
 cnt:∀ (i:Nat) (c:Int),s.ct[i]?=some c→c=(s.all.count (i:Int):Nat)
 rng:∀ z ∈ s.all,inN z x.n=true
 rinc:Rt.Inc s.r
 kinc:Rt.Inc s.k
 klive:∀ z ∈ s.k,takenZ s.cs z=true
 used:s.u=usedL s.cs
 fit:Ac.Fit s.u x.q
theorem flat_set_nat {X Y:Type}(f:X→List Y)(μ:List Y→Nat)(h0:∀ a b,μ (a++b)=μ a+μ b):∀ (L:List X) (i:Nat) (l l':X),L[i]?=some l→μ ((L.set i l').flatMap f)+μ (f l)=μ (L.flatMap f)+μ (f l')
 | y::L,0,l,l',h=>by
  obtain rfl:y=l:=by simpa using h
  simp only [List.set_cons_zero,List.flatMap_cons,h0]
  omega
 | y::L,i+1,l,l',h=>by
  have:=flat_set_nat f μ h0 L i l l' (by simpa using h)
  simp only [List.set_cons_succ,List.flatMap_cons,h0]
  omega
theorem allV_count {vs:List (List Vl)}{i:Nat}{l:List Vl}(h:vs[i]?=some l)(l':List Vl)(z:Int):(allV (vs.set i l')).count z+(ptrs l).count z=(allV vs).count z+(ptrs l').count z :=
 flat_set_nat ptrs (List.count z) (fun _ _=>List.count_append ..) vs i l l' h
theorem allV_len {vs:List (List Vl)}{i:Nat}{l:List Vl}(h:vs[i]?=some l)(l':List Vl):(allV (vs.set i l')).length+(ptrs l).length=(allV vs).length+(ptrs l').length :=
 flat_set_nat ptrs List.length (fun _ _=>List.length_append) vs i l l' h
theorem ptrs_set {k:Nat}{l:List Vl}{o y:Vl}(h:l[k]?=some o)(μ:List Int→Nat)(h0:∀ a b,μ (a++b)=μ a+μ b):μ (ptrs (l.set k y))+μ (ptrs [o])=μ (ptrs l)+μ (ptrs [y]):=by
 have e:∀ L:List Vl,ptrs L=L.flatMap (fun y=>ptrs [y]):=fun L=>by
  induction L with
  | nil=>rfl
  | cons a L ih =>
   rw [List.flatMap_cons,← ih]
   unfold ptrs
   by_cases h:a.k == 2 <;> simp [h]
 rw [e (l.set k y),e l]
 exact flat_set_nat (fun y=>ptrs [y]) μ h0 l k o y h
theorem used_set:∀ {cs:List St} {i:Nat} {z z':St},cs[i]?=some z→usedL (cs.set i z')+szOf z=usedL cs+szOf z'
 | y::cs,0,z,z',h=>by
  obtain rfl:y=z:=by simpa using h
  simp only [usedL,List.set_cons_zero,List.map_cons,List.sum_cons]
  omega
 | y::cs,i+1,z,z',h=>by
  have:=used_set (cs:=cs) (i:=i) (z:=z) (z':=z') (by simpa using h)
  simp only [usedL,List.set_cons_succ,List.map_cons,List.sum_cons] at this ⊢
  omega
theorem used_pos (cs:List St)(h:∀ z ∈ cs,0≤z.c∧z.c<3):0≤usedL cs:=by
 induction cs with
 | nil=>simp [usedL]
 | cons y cs ih =>
  have h1:=ih (fun z hz=>h z (List.mem_cons_of_mem _ hz))
  simp only [usedL,List.map_cons,List.sum_cons] at h1 ⊢
  have:0≤szOf y:=by unfold szOf sizeZ;split <;> (repeat' split) <;> omega
  omega
theorem ptrs_nils (n:Nat):ptrs (nils n)=[]:=by simp [nils,ptrs,Vl.nil]
theorem ptrs_one (y:Vl):ptrs [y]=if ptB y=true then [y.n] else []:=by
 unfold ptrs ptB
 by_cases h:y.k == 2 <;> simp [h]
theorem taken_at {cs:List St}{i:Nat}{z:St}(h:cs[i]?=some z):takenZ cs i=z.t:=by
 have:=(List.getElem?_eq_some_iff.1 h).1
 simp [takenZ,inN_t (n:=(i:Int)) (m:=cs.length) (by omega),h]
theorem taken_in {cs:List St}{n:Int}(h:takenZ cs n=true):∃ (i:Nat) (z:St),n=i∧cs[i]?=some z∧z.t=true:=by
 unfold takenZ at h
 rw [Bool.and_eq_true] at h
 have h1:=inN_in h.1
 obtain⟨i,rfl⟩:∃ i:Nat,n=i:=⟨n.toNat,by omega⟩
 obtain⟨z,hz⟩:∃ z,cs[i]?=some z:=⟨_,List.getElem?_eq_getElem (by omega)⟩
 refine⟨i,z,rfl,hz,?_⟩
 have:=h.2
 simpa [hz] using this
theorem okB_in {x:Sh}(hm:x.may=true){z:Int}(h:inN z x.n=true):Rt.okB z=true:=by
 have:=inN_in h
 have:=(x.count hm).2
 exact Rt.okB_yes (by omega) (by omega)
theorem hasB_not {l:List Int}{z:Int}:Rt.hasB l z=false ↔ z ∉ l:=by
 cases h:Rt.hasB l z
 ·simp only [true_iff];intro hm;rw [Rt.hasB_iff.2 hm] at h;cases h
 ·simp only [Bool.true_eq_false,false_iff,Classical.not_not];exact Rt.hasB_iff.1 h
theorem addL_count {n:Int}{l:List Int}(hi:Rt.Inc l)(hn:n ∉ l)(h0:0≤n)(h1:n≤191):(Rt.addL n l).Perm (n::l):=by
 refine (List.perm_ext_iff_of_nodup ?_ ?_).2 (fun z=>by rw [Rt.mem_addL];simp)
 ·exact (Rt.addL_inc h0 h1 hi).1.imp (fun hab e=>by omega)
 ·rw [List.nodup_cons]
  exact⟨hn,hi.1.imp (fun hab e=>by omega)⟩
theorem inc_one {n:Int}{l:List Int}(hi:Rt.Inc l)(hn:n ∈ l):l.Perm (n::Rt.dropL n l):=by
 refine (List.perm_ext_iff_of_nodup ?_ ?_).2 (fun z=>?_)
 ·exact hi.1.imp (fun hab e=>by omega)
 ·rw [List.nodup_cons]
  exact⟨fun h=>(Rt.mem_dropL.1 h).2 rfl,(Rt.dropL_inc n hi).1.imp (fun hab e=>by omega)⟩
 ·rw [List.mem_cons,Rt.mem_dropL]
  constructor
  ·intro h
   by_cases e:z=n
   ·exact Or.inl e
   ·exact Or.inr ⟨h,e⟩
  ·rintro (rfl | ⟨h,_⟩)
   ·exact hn
   ·exact h
end Hp
end Go.Proofs.YtdhgpmndgcggfaaGreatDoor
namespace Go.Proofs.YtdhgpmndgcggfaaGreatDoor
namespace Hp
open Go.RowKit
section
variable {x:Sh}{s:Hs}
theorem Ok.at_ (h:Ok x s){i:Nat}(hi:i<x.n):s.ct[i]?=some ((s.all.count (i:Int):Nat):Int):=by
 have hl:=h.l2
 obtain⟨c,hc⟩:∃ c,s.ct[i]?=some c:=⟨_,List.getElem?_eq_getElem (by omega)⟩
 rw [hc,h.cnt i c hc]
theorem Ok.ctz (h:Ok x s){i:Nat}(hi:i<x.n):ctZ s.ct i=((s.all.count (i:Int):Nat):Int):=ctZ_at (h.at_ hi)
theorem Ok.live (h:Ok x s){n:Int}(hn:n ∈ s.all):∃ (i:Nat) (z:St),n=i∧i<x.n∧s.cs[i]?=some z∧z.t=true:=by
 have h1:=inN_in (h.rng n hn)
 obtain⟨i,rfl⟩:∃ i:Nat,n=i:=⟨n.toNat,by omega⟩
 have hi:i<x.n:=by omega
 have hl:=h.l1
 obtain⟨z,hz⟩:∃ z,s.cs[i]?=some z:=⟨_,List.getElem?_eq_getElem (by omega)⟩
 refine⟨i,z,rfl,hi,hz,?_⟩
 cases ht:z.t
 ·have h2:=(h.dead i z hz ht).1
  rw [h.at_ hi] at h2
  have:s.all.count (i:Int)=0:=by
   have:=Option.some.inj h2
   omega
  exact absurd hn (List.count_eq_zero.1 this)
 ·rfl
theorem Ok.not_in (h:Ok x s){i:Nat}{z:St}(hz:s.cs[i]?=some z)(ht:z.t=false):(i:Int) ∉ s.all:=by
 intro hm
 obtain⟨j,y,e,_,hy,hyt⟩:=h.live hm
 obtain rfl:i=j:=by omega
 rw [hz] at hy
 obtain rfl:=Option.some.inj hy
 rw [ht] at hyt
 cases hyt
theorem Ok.row (h:Ok x s){i:Nat}(hi:i<x.n):∃ l,s.vs[i]?=some l∧l.length=x.sl i∧(∀ y ∈ l,y.ok)∧s.outs i=ptrs l:=by
 have hl:=h.l3
 obtain⟨l,hv⟩:∃ l,s.vs[i]?=some l:=⟨_,List.getElem?_eq_getElem (by omega)⟩
 exact⟨l,hv,h.rows i l hv,h.vok i l hv,by simp [Hs.outs,hv]⟩
theorem mem_ptrs {l:List Vl}{z:Int}(h:z ∈ ptrs l):∃ y ∈ l,y.k=2∧y.n=z:=by
 unfold ptrs at h
 obtain⟨y,hy,e⟩:=List.mem_map.1 h
 rw [List.mem_filter] at hy
 exact⟨y,hy.1,by simpa using hy.2,e⟩
theorem ptrs_all {vs:List (List Vl)}{i:Nat}{l:List Vl}(h:vs[i]?=some l){z:Int}(hz:z ∈ ptrs l):z ∈ allV vs:=List.mem_flatMap.2 ⟨l,List.mem_of_getElem? h,hz⟩
theorem taken_set {cs:List St}{i:Nat}{z z':St}(hz:cs[i]?=some z)(ht:z'.t=true){n:Int}(h:takenZ cs n=true):takenZ (cs.set i z') n=true:=by
 obtain⟨j,y,rfl,hy,hyt⟩:=taken_in h
 have:=taken_at (cs:=cs.set i z') (i:=j) (z:=if i=j then z' else y) (by rw [at_set hz];split <;> simp [hy])
 rw [this]
 split
 ·exact ht
 ·exact hyt
theorem taken_off {cs:List St}{i:Nat}{z z':St}(hz:cs[i]?=some z){n:Int}(hne:n≠i)(h:takenZ cs n=true):takenZ (cs.set i z') n=true:=by
 obtain⟨j,y,rfl,hy,hyt⟩:=taken_in h
 have:=taken_at (cs:=cs.set i z') (i:=j) (z:=y) (by rw [at_set hz,if_neg (by omega)];exact hy)
 rw [this]
 exact hyt
theorem al_yes (h:Ok x s){n:Int}(he:alE x s n=0):∃ (i:Nat) (z:St),tkV s.p n=i∧i<x.n∧s.cs[i]?=some z∧z.t=false∧z.c=n∧tkC s.cs s.p n=s.cs.set i ⟨z.c,z.g,true⟩∧tkE s.p n=0∧sizeZ n≠0∧¬ x.q - s.u<sizeZ n:=by
 unfold alE at he
 split at he
 ·cases he
 ·rename_i h1
  split at he
  ·cases he
  ·rename_i h2
   have hl:=h.l1
   rcases take_cases s.p n with hn | ⟨k,rfl,hk,hp | ⟨M,i,hp⟩⟩
   ·have:=(tk_arg (cs:=s.cs) (p:=s.p) hn).2.1
    rw [this] at he
    cases he
   ·have:=(tk_full (cs:=s.cs) hk hp).2.1
    rw [this] at he
    cases he
   ·obtain⟨i',z,rfl,hz,hc,ht,hg⟩:=h.inv.mem k hk i (by rw [hp];simp)
    obtain⟨e1,e2,e3,e4⟩:=tk_top hk hp hz
    exact⟨i',z,e1,by have:=(List.getElem?_eq_some_iff.1 hz).1;omega,hz,ht,hc,e3,e2,h1,h2⟩
theorem size_pos (n:Int):0≤sizeZ n:=by unfold sizeZ;(repeat' split) <;> omega
theorem i_okB (h:Ok x s){i:Nat}(hi:i<x.n):(0:Int)≤i∧(i:Int)≤191:=by
 have:=(x.count h.may).2
 omega
theorem Ok.al (h:Ok x s)(n:Int):Ok x (alS x s n)∧(alS x s n).all.length≤s.all.length+1:=by
 unfold alS
 by_cases he:alE x s n=0
 ·rw [if_pos he]
  obtain⟨i,z,e1,hi,hz,ht,hc,e3,e2,h1,h2⟩:=al_yes h he
  have hno:=h.not_in hz ht
  have hb:=i_okB h hi
  have hnr:(i:Int) ∉ s.r:=fun hm=>hno (by simp [Hs.all,hm])
  have hp:=addL_count h.rinc hnr hb.1 hb.2
  have hli:=h.l1
  have hl2:=h.l2
  have hl3:=h.l3
  have hsz:=size_pos n
  have inv':=h.inv.tk n
  rw [e3] at inv'
  rw [e1,e3,Int.toNat_natCast]
  have hcount:∀ y:Int,(allV s.vs++(Rt.addL (i:Int) s.r++s.q)).count y=s.all.count y+(if (i:Int)=y then 1 else 0):=fun y=>by
   simp only [Hs.all,List.count_append,hp.count_eq,List.count_cons,beq_iff_eq]
   omega
  refine⟨⟨h.may,by simpa using h.l1,by simpa using h.l2,h.l3,inv',h.rows,h.vok,fun j y hy hyt=>?_,fun j c hc'=>?_,fun y hy=>?_,Rt.addL_inc hb.1 hb.2 h.rinc,h.kinc,fun y hy=>taken_set hz rfl (h.klive y hy),?_,?_⟩,?_⟩
  ·show (s.ct.set i 1)[j]?=some 0∧s.vs[j]?=_
   have hy':(s.cs.set i ⟨z.c,z.g,true⟩)[j]?=some y:=hy
   rw [at_set hz] at hy'
   by_cases e:i=j
   ·rw [if_pos e] at hy'
    obtain rfl:=Option.some.inj hy'
    cases hyt
   ·rw [if_neg e] at hy'
    rw [set_any,if_neg e]
    exact h.dead j y hy' hyt
  ·have hc'':(s.ct.set i 1)[j]?=some c:=hc'
   show c=(((allV s.vs++(Rt.addL (i:Int) s.r++s.q)).count (j:Int):Nat):Int)
   rw [hcount,set_any] at *
   by_cases e:i=j
   ·subst e
    rw [if_pos rfl,if_pos (by omega)] at hc''
    rw [if_pos rfl,List.count_eq_zero.2 hno]
    have:=Option.some.inj hc''
    omega
   ·rw [if_neg e] at hc''
    rw [if_neg (by omega)]
    have:=h.cnt j c hc''
    omega
  ·have hy':y ∈ allV s.vs++(Rt.addL (i:Int) s.r++s.q):=hy
   have hcp:=hcount y
   have:=List.count_pos_iff.2 hy'
   by_cases e:(i:Int)=y
   ·subst e
    exact inN_t (by omega)
   ·rw [if_neg e] at hcp
    exact h.rng y (List.count_pos_iff.1 (by omega))
  ·show s.u+sizeZ n=usedL (s.cs.set i ⟨z.c,z.g,true⟩)
   have:=used_set (z':=⟨z.c,z.g,true⟩) hz
   have e5:szOf z=0:=by simp [szOf,ht]
   have e6:szOf ⟨z.c,z.g,true⟩=sizeZ n:=by simp [szOf,hc]
   rw [e5,e6] at this
   have:=h.used
   omega
  ·obtain⟨f0,f1,f2⟩:=h.fit
   exact⟨show 0≤s.u+sizeZ n by omega,show s.u+sizeZ n≤x.q by omega,f2⟩
  ·show (allV s.vs++(Rt.addL (i:Int) s.r++s.q)).length≤_
   simp only [Hs.all,List.length_append,hp.length_eq,List.length_cons]
   omega
 ·rw [if_neg he]
  exact⟨h,by omega⟩
theorem li_yes (h:Ok x s){n:Int}(he:liE x s n=0):∃ (i:Nat) (z:St),n=i∧i<x.n∧s.cs[i]?=some z∧z.t=true:=by
 unfold liE at he
 split at he
 ·split at he
  ·rename_i h2
   obtain⟨i,z,rfl,hz,ht⟩:=taken_in h2
   have:=h.l1
   exact⟨i,z,rfl,by have:=(List.getElem?_eq_some_iff.1 hz).1;omega,hz,ht⟩
  ·cases he
 ·cases he
theorem Ok.up (h:Ok x s){i:Nat}{z:St}(hi:i<x.n)(hz:s.cs[i]?=some z)(ht:z.t=true){s':Hs}(e1:s'.cs=s.cs)(e2:s'.p=s.p)(e3:s'.ct=upC s i)(e4:s'.u=s.u)(e5:s'.k=s.k)
  (l3:s'.vs.length=x.n) (rows:∀ (i:Nat) (l:List Vl),s'.vs[i]?=some l→l.length=x.sl i) (vok:∀ (i:Nat) (l:List Vl),s'.vs[i]?=some l→∀ y ∈ l,y.ok) (dv:∀ (j:Nat) (y:St),s.cs[j]?=some y→y.t=false→s'.vs[j]?=s.vs[j]?)
  (ri:Rt.Inc s'.r) (hc:∀ y,s'.all.count y=s.all.count y+(if (i:Int)=y then 1 else 0)):Ok x s':=by
 have hct:=h.ctz hi
 have hl2:=h.l2
 refine⟨h.may,by rw [e1];exact h.l1,by rw [e3];simpa [upC] using h.l2,l3,by rw [e1,e2];exact h.inv,rows,vok,fun j y hy hyt=>?_,fun j c hc'=>?_,fun y hy=>?_,ri,by rw [e5];exact h.kinc,by rw [e1,e5];exact h.klive,by rw [e1,e4];exact h.used,by rw [e4];exact h.fit⟩
 ·rw [e1] at hy
  rw [e3,dv j y hy hyt]
  have hd:=h.dead j y hy hyt
  refine⟨?_,hd.2⟩
  unfold upC
  rw [Int.toNat_natCast,set_any,if_neg]
  ·exact hd.1
  ·rintro rfl
   rw [hz] at hy
   obtain rfl:=Option.some.inj hy
   rw [ht] at hyt
   cases hyt
 ·rw [e3] at hc'
  unfold upC at hc'
  rw [Int.toNat_natCast,set_any] at hc'
  rw [hc]
  by_cases e:i=j
  ·subst e
   rw [if_pos rfl,if_pos (by omega)] at hc'
   have:=Option.some.inj hc'
   rw [if_pos rfl]
   omega
  ·rw [if_neg e] at hc'
   rw [if_neg (by omega)]
   have:=h.cnt j c hc'
   omega
 ·have hp:=List.count_pos_iff.2 hy
  rw [hc] at hp
  by_cases e:(i:Int)=y
  ·subst e
   exact inN_t (by omega)
  ·rw [if_neg e] at hp
   exact h.rng y (List.count_pos_iff.1 (by omega))
theorem Ok.ho (h:Ok x s)(n:Int):Ok x (hoS x s n)∧(hoS x s n).all.length≤s.all.length+1:=by
 unfold hoS
 by_cases he:liE x s n=0∧Rt.hasB s.r n=false∧upE s n=0
 ·rw [if_pos he]
  obtain⟨i,z,rfl,hi,hz,ht⟩:=li_yes h he.1
  have hb:=i_okB h hi
  have hp:=addL_count h.rinc (hasB_not.1 he.2.1) hb.1 hb.2
  refine⟨h.up hi hz ht rfl rfl rfl rfl rfl h.l3 h.rows h.vok (fun _ _ _ _=>rfl) (Rt.addL_inc hb.1 hb.2 h.rinc) (fun y=>?_),?_⟩
  ·simp only [Hs.all,List.count_append,hp.count_eq,List.count_cons,beq_iff_eq]
   omega
  ·simp only [Hs.all,List.length_append,hp.length_eq,List.length_cons]
   omega
 ·rw [if_neg he]
  exact⟨h,by omega⟩
theorem Ok.moved (h:Ok x s){s':Hs}(e1:s'.cs=s.cs)(e2:s'.p=s.p)(e3:s'.ct=s.ct)(e4:s'.u=s.u)(e6:s'.vs=s.vs)(ri:Rt.Inc s'.r)(ki:Rt.Inc s'.k)(kl:∀ z ∈ s'.k,z ∈ s.k)(hc:∀ y,s'.all.count y=s.all.count y):Ok x s' :=
 ⟨h.may,by rw [e1];exact h.l1,by rw [e3];exact h.l2,by rw [e6];exact h.l3,by rw [e1,e2];exact h.inv,by rw [e6];exact h.rows,by rw [e6];exact h.vok,by rw [e1,e3,e6];exact h.dead,fun j c hc'=>by rw [hc];exact h.cnt j c (e3 ▸ hc'),
  fun y hy=>h.rng y (List.count_pos_iff.1 (by rw [← hc];exact List.count_pos_iff.2 hy)),ri,ki,fun z hz=>by rw [e1];exact h.klive z (kl z hz),by rw [e1,e4];exact h.used,by rw [e4];exact h.fit⟩
theorem Ok.dr (h:Ok x s)(n:Int):Ok x (drS x s n)∧(drS x s n).all.length≤s.all.length+1:=by
 unfold drS
 by_cases he:drE x s n=0
 ·rw [if_pos he]
  have hm:n ∈ s.r:=by
   unfold drE at he
   split at he
   ·split at he
    ·rename_i h2;exact Rt.hasB_iff.1 h2
    ·cases he
   ·cases he
  have hp:=inc_one h.rinc hm
  refine⟨h.moved rfl rfl rfl rfl rfl (Rt.dropL_inc n h.rinc) h.kinc (fun _ hz=>hz) (fun y=>?_),?_⟩
  ·simp only [Hs.all,List.count_append,hp.count_eq,List.count_cons,List.count_nil,beq_iff_eq]
   omega
  ·have:=hp.length_eq
   simp only [Hs.all,List.length_append,List.length_cons,List.length_nil] at this ⊢
   omega
 ·rw [if_neg he]
  exact⟨h,by omega⟩
theorem fg_inc (l:List Int):∀ k:List Int,Rt.Inc k→Rt.Inc (l.foldl (fun k c=>Rt.dropL c k) k)∧∀ z ∈ l.foldl (fun k c=>Rt.dropL c k) k,z ∈ k:=by
 induction l with
 | nil=>exact fun k hk=>⟨hk,fun _ h=>h⟩
 | cons c l ih =>
  intro k hk
  obtain⟨h1,h2⟩:=ih (Rt.dropL c k) (Rt.dropL_inc c hk)
  exact⟨h1,fun z hz=>(Rt.mem_dropL.1 (h2 z hz)).1⟩
theorem Ok.fg (h:Ok x s)(l:List Int):Ok x (fgS s l)∧(fgS s l).all.length=s.all.length :=
 ⟨h.moved rfl rfl rfl rfl rfl h.rinc (fg_inc l s.k h.kinc).1 (fg_inc l s.k h.kinc).2 (fun _=>rfl),rfl⟩
theorem Ok.ticked (h:Ok x s):Ok x { s with ch:=tick s.ch }:=h.moved rfl rfl rfl rfl rfl h.rinc h.kinc (fun _ hz=>hz) (fun _=>rfl)
theorem rp_count {i k:Nat}{l:List Vl}(hv:s.vs[i]?=some l){o:Vl}(ho:l[k]?=some o)(y:Vl)(μ:List Int→Nat)(h0:∀ a b,μ (a++b)=μ a+μ b):μ (rpS s i k y).all=μ s.all+μ (ptrs [y]):=by
 have h1:=ptrs_set ho (y:=y) μ h0
 have h2:=flat_set_nat ptrs μ h0 s.vs i l (l.set k y) hv
 have e:vlAt s.vs i k=o:=by simp [vlAt,hv,ho]
 simp only [rpS,Hs.all,h0,e,Int.toNat_natCast,hv,Option.getD_some]
 unfold allV at *
 omega
theorem rp_vs (h:Ok x s){i k:Nat}{z:St}{l:List Vl}(hz:s.cs[i]?=some z)(ht:z.t=true)(hv:s.vs[i]?=some l)(y:Vl)(hy:y.ok) :
  (rpS s i k y).vs=s.vs.set i (l.set k y)∧(rpS s i k y).vs.length=x.n∧(∀ (j:Nat) (l':List Vl),(rpS s i k y).vs[j]?=some l'→l'.length=x.sl j)∧(∀ (j:Nat) (l':List Vl),(rpS s i k y).vs[j]?=some l'→∀ y ∈ l',y.ok) ∧
  (∀ (j:Nat) (y':St),s.cs[j]?=some y'→y'.t=false→(rpS s i k y).vs[j]?=s.vs[j]?):=by
 have e:(rpS s i k y).vs=s.vs.set i (l.set k y):=by simp [rpS,hv]
 refine⟨e,by rw [e];simpa using h.l3,?_,?_,?_⟩
 ·rw [e]
  intro j l' hl'
  rw [set_any] at hl'
  split at hl'
  ·rename_i e2
   subst e2
   rw [if_pos (List.getElem?_eq_some_iff.1 hv).1] at hl'
   obtain rfl:=Option.some.inj hl'
   simpa using h.rows i l hv
  ·exact h.rows j l' hl'
 ·rw [e]
  intro j l' hl'
  rw [set_any] at hl'
  split at hl'
  ·rename_i e2
   subst e2
   rw [if_pos (List.getElem?_eq_some_iff.1 hv).1] at hl'
   obtain rfl:=Option.some.inj hl'
   intro y' hy'
   rcases List.mem_or_eq_of_mem_set hy' with h' | rfl
   ·exact h.vok i l hv y' h'
   ·exact hy
  ·exact h.vok j l' hl'
 ·intro j y' hj hyt
  rw [e,set_any,if_neg]
  rintro rfl
  rw [hz] at hj
  obtain rfl:=Option.some.inj hj
  rw [ht] at hyt
  cases hyt
theorem Ok.rp (h:Ok x s){i k:Nat}{z:St}(hi:i<x.n)(hz:s.cs[i]?=some z)(ht:z.t=true)(hk:k<x.sl i):Ok x (rpS s i k Vl.nil)∧(rpS s i k Vl.nil).all.length=s.all.length:=by
 obtain⟨l,hv,hl,hok,_⟩:=h.row hi
 obtain⟨o,ho⟩:∃ o,l[k]?=some o:=⟨_,List.getElem?_eq_getElem (by omega)⟩
 obtain⟨q1,q2,q3,q4,q5⟩:=rp_vs h hz ht hv (k:=k) Vl.nil Vl.nil_ok
 have hcnt:=fun y=>rp_count hv ho Vl.nil (List.count y) (fun _ _=>List.count_append ..)
 have hlen:=rp_count hv ho Vl.nil List.length (fun _ _=>List.length_append)
 have e0:ptrs [Vl.nil]=[]:=rfl
 rw [e0] at hlen
 refine⟨⟨h.may,h.l1,h.l2,q2,h.inv,q3,q4,fun j y hy hyt=>⟨(h.dead j y hy hyt).1,(q5 j y hy hyt).trans (h.dead j y hy hyt).2⟩,fun j c hc=>?_,fun y hy=>?_,h.rinc,h.kinc,h.klive,h.used,h.fit⟩,by simpa using hlen⟩
 ·rw [hcnt,e0]
  have:=h.cnt j c hc
  simpa using this
 ·have hp:=List.count_pos_iff.2 hy
  rw [hcnt,e0] at hp
  exact h.rng y (List.count_pos_iff.1 (by simpa using hp))
theorem cut_cs (s:Hs)(n:Int):∀ j,(cutTo s n j).cs=s.cs
 | 0=>rfl
 | j+1=>(show (cutTo s n j).cs=s.cs from cut_cs s n j)
theorem Ok.cut (h:Ok x s){i:Nat}{z:St}(hi:i<x.n)(hz:s.cs[i]?=some z)(ht:z.t=true):∀ j,j≤x.sl i→Ok x (cutTo s i j)∧(cutTo s i j).all.length=s.all.length
 | 0,_=>⟨h,rfl⟩
 | j+1,hj=>by
  obtain⟨h1,h2⟩:=Ok.cut h hi hz ht j (by omega)
  obtain⟨h3,h4⟩:=h1.rp (k:=j) hi (by rw [cut_cs];exact hz) ht (by omega)
  exact⟨h3,h4.trans h2⟩
theorem Ok.cu (h:Ok x s)(n:Int):Ok x (cuS x s n)∧(cuS x s n).all.length=s.all.length:=by
 unfold cuS
 by_cases he:liE x s n=0
 ·rw [if_pos he]
  obtain⟨i,z,rfl,hi,hz,ht⟩:=li_yes h he
  rw [slX_at hi]
  exact h.ticked.cut hi hz ht (x.sl i) (Nat.le_refl _)
 ·rw [if_neg he]
  exact⟨h,rfl⟩
theorem fi_yes (h:Ok x s){n k:Int}{y:Vl}(he:fiE x s n k y=0):∃ (i j:Nat) (z:St),n=i∧k=j∧i<x.n∧j<x.sl i∧s.cs[i]?=some z∧z.t=true∧Wd.rightB y.k y.n=true∧(ptB y=true→∃ (m:Nat) (v:St),y.n=m∧m<x.n∧s.cs[m]?=some v∧v.t=true):=by
 unfold fiE at he
 split at he
 ·rename_i h1
  split at he
  ·rename_i h2
   simp only [Bool.and_eq_true,Bool.or_eq_true,Bool.not_eq_true'] at h1 h2
   obtain⟨⟨a1,a2⟩,a3⟩:=h1
   obtain⟨b1,b2⟩:=h2
   obtain⟨i,j,rfl,rfl,hi,hj⟩:=inS_at a1
   obtain⟨i',z,e,hz,ht⟩:=taken_in b1
   obtain rfl:i=i':=by omega
   refine⟨i,j,z,rfl,rfl,hi,hj,hz,ht,a2,fun hp=>?_⟩
   rcases b2 with b2 | b2
   ·rw [hp] at b2;cases b2
   ·obtain⟨m,v,e,hv,hvt⟩:=taken_in b2
    have:=h.l1
    exact⟨m,v,e,by have:=(List.getElem?_eq_some_iff.1 hv).1;omega,hv,hvt⟩
  ·cases he
 ·cases he
theorem Ok.pu (h:Ok x s)(n k:Int)(y:Vl)(hy:0≤y.n):Ok x (puS x s n k y)∧(puS x s n k y).all.length≤s.all.length+1:=by
 unfold puS
 by_cases he:puE x s n k y=0
 ·rw [if_pos he]
  have hf:fiE x s n k y=0:=by
   unfold puE at he
   split at he
   ·assumption
   ·exact he
  obtain⟨i,j,z,rfl,rfl,hi,hj,hz,ht,hr,hp⟩:=fi_yes h hf
  have hok:y.ok:=⟨hy,hr⟩
  obtain⟨l,hv,hl,_,_⟩:=h.row hi
  obtain⟨o,ho⟩:∃ o,l[j]?=some o:=⟨_,List.getElem?_eq_getElem (by omega)⟩
  cases hb:ptB y
  ·rw [if_neg (by simp)]
   have h':=h.ticked
   generalize hs:({ s with ct:=s.ct,ch:=tick s.ch }:Hs)=s1 at *
   subst hs
   obtain⟨q1,q2,q3,q4,q5⟩:=rp_vs h' hz ht hv (k:=j) y hok
   have hcnt:=fun z=>rp_count (s:={ s with ct:=s.ct,ch:=tick s.ch }) hv ho y (List.count z) (fun _ _=>List.count_append ..)
   have hlen:=rp_count (s:={ s with ct:=s.ct,ch:=tick s.ch }) hv ho y List.length (fun _ _=>List.length_append)
   have e0:ptrs [y]=[]:=by rw [ptrs_one,hb];rfl
   rw [e0] at hlen
   refine⟨⟨h'.may,h'.l1,h'.l2,q2,h'.inv,q3,q4,fun j y hy hyt=>⟨(h'.dead j y hy hyt).1,(q5 j y hy hyt).trans (h'.dead j y hy hyt).2⟩,fun j c hc=>?_,fun y hy=>?_,h'.rinc,h'.kinc,h'.klive,h'.used,h'.fit⟩,by
    have:s.all.length=({ s with ct:=s.ct,ch:=tick s.ch }:Hs).all.length:=rfl
    simp at hlen
    omega⟩
   ·rw [hcnt,e0]
    have:=h'.cnt j c hc
    simpa using this
   ·have hp:=List.count_pos_iff.2 hy
    rw [hcnt,e0] at hp
    exact h'.rng y (List.count_pos_iff.1 (by simpa using hp))
  ·rw [if_pos rfl]
   obtain⟨m,v,e,hm,hvm,hvt⟩:=hp hb
   obtain⟨q1,q2,q3,q4,q5⟩:=rp_vs (s:=s) h hz ht hv (k:=j) y hok
   have hcnt:=fun z=>rp_count (s:=s) hv ho y (List.count z) (fun _ _=>List.count_append ..)
   have hlen:=rp_count (s:=s) hv ho y List.length (fun _ _=>List.length_append)
   have e0:ptrs [y]=[(m:Int)]:=by rw [ptrs_one,hb,e];rfl
   rw [e0] at hlen
   rw [e]
   refine⟨h.up hm hvm hvt rfl rfl rfl rfl rfl q2 q3 q4 q5 h.rinc (fun w=>?_),?_⟩
   ·show (rpS s i j y).all.count w=_
    rw [hcnt,e0]
    simp only [List.count_cons,List.count_nil,beq_iff_eq]
    omega
   ·show (rpS s i j y).all.length≤_
    simp at hlen
    omega
 ·rw [if_neg he]
  exact⟨h,by omega⟩
end
end Hp
end Go.Proofs.YtdhgpmndgcggfaaGreatDoor
namespace Go.Proofs.YtdhgpmndgcggfaaGreatDoor
namespace Hp
open Go.RowKit
section
variable {x:Sh}{s:Hs}
theorem pop_cons {q:List Int}(h:Qu.popB q=true):∃ c r,q=c::r∧Qu.popA q=c∧Qu.popN q=((q.count c:Nat):Int)∧Qu.popS q=Rt.dropL c r:=by
 cases q with
 | nil=>cases h
 | cons c r=>exact⟨c,r,rfl,rfl,rfl,rfl⟩
theorem count_drop (c:Int)(l:List Int)(z:Int):(Rt.dropL c l).count z=if z=c then 0 else l.count z:=by
 by_cases e:z=c
 ·subst e
  rw [if_pos rfl]
  exact List.count_eq_zero.2 (fun h=>(Rt.mem_dropL.1 h).2 rfl)
 ·rw [if_neg e]
  exact Qu.cnt_drop c e l
theorem Ok.pop (h:Ok x s)(hb:Qu.popB s.q=true):∃ (i:Nat) (z:St) (N:Nat),Qu.popA s.q=i∧i<x.n∧s.cs[i]?=some z∧z.t=true∧Qu.popN s.q=N∧N=s.q.count (i:Int)∧1≤N ∧
  (∀ y,(Qu.popS s.q).count y=if y=i then 0 else s.q.count y)∧(Qu.popS s.q).length+N=s.q.length∧ctZ s.ct i=((allV s.vs++s.r).count (i:Int)+N:Nat):=by
 obtain⟨c,r,e,e1,e2,e3⟩:=pop_cons hb
 have hm:c ∈ s.all:=by simp [Hs.all,e]
 obtain⟨i,z,rfl,hi,hz,ht⟩:=h.live hm
 refine⟨i,z,s.q.count (i:Int),e1,hi,hz,ht,e2,rfl,?_,fun y=>?_,?_,?_⟩
 ·exact List.count_pos_iff.2 (by rw [e];simp)
 ·rw [e3,count_drop,e,List.count_cons]
  by_cases e4:y=(i:Int)
  ·simp [e4]
  ·have:¬ (i:Int)=y:=fun h=>e4 h.symm
   simp [e4,this]
 ·rw [e3,e]
  have:=Qu.drop_sum (i:Int) r
  unfold Qu.cnt at this
  simp only [List.count_cons_self,List.length_cons]
  omega
 ·rw [h.ctz hi]
  simp only [Hs.all,List.count_append]
  omega
theorem Ok.lo (h:Ok x s)(hb:Qu.popB s.q=true)(hd:diB s=false):Ok x (oneS x s)∧(oneS x s).all.length≤s.all.length:=by
 obtain⟨i,z,N,e1,hi,hz,ht,e2,hN,h1,hc,hl,hct⟩:=h.pop hb
 have hne:ctZ s.ct i≠N:=by
  intro e
  have:diB s=true:=by unfold diB;rw [e1,e2,e];simp
  rw [this] at hd
  cases hd
 have hi2:=i_okB h hi
 have hlen:=h.l2
 unfold oneS
 rw [if_neg (by rw [hd];simp),e1,e2]
 unfold loS
 rw [Int.toNat_natCast,hct]
 have hcount:∀ y:Int,(allV s.vs++(s.r++Qu.popS s.q)).count y+(if y=i then N else 0)=s.all.count y:=fun y=>by
  simp only [Hs.all,List.count_append,hc y]
  by_cases e:y=(i:Int)
  ·subst e;rw [if_pos rfl,if_pos rfl];omega
  ·rw [if_neg e,if_neg e];omega
 have hposc:∀ y,y ∈ allV s.vs++(s.r++Qu.popS s.q)→y ∈ s.all:=fun y hy=>by
  have:=List.count_pos_iff.2 hy
  have:=hcount y
  exact List.count_pos_iff.1 (by omega)
 refine⟨⟨h.may,h.l1,by simpa using h.l2,h.l3,h.inv,h.rows,h.vok,fun j y hy hyt=>?_,fun j c hc'=>?_,fun y hy=>h.rng y (hposc y hy),h.rinc,Rt.addL_inc hi2.1 hi2.2 h.kinc,fun y hy=>?_,h.used,h.fit⟩,?_⟩
 ·have hd':=h.dead j y hy hyt
  refine⟨?_,hd'.2⟩
  show (s.ct.set i _)[j]?=some 0
  rw [set_any,if_neg]
  ·exact hd'.1
  ·rintro rfl
   have hy':s.cs[i]?=some y:=hy
   rw [hz] at hy'
   obtain rfl:=Option.some.inj hy'
   rw [ht] at hyt
   cases hyt
 ·show c=(((allV s.vs++(s.r++Qu.popS s.q)).count (j:Int):Nat):Int)
  have hc'':(s.ct.set i ((((allV s.vs++s.r).count (i:Int)+N:Nat):Int) - N))[j]?=some c:=hc'
  have hcj:=hcount j
  rw [set_any] at hc''
  by_cases e:i=j
  ·subst e
   rw [if_pos rfl,if_pos (by omega)] at hc''
   have:=Option.some.inj hc''
   have e5:(allV s.vs++(s.r++Qu.popS s.q)).count (i:Int)=(allV s.vs++s.r).count (i:Int):=by
    have:=hc i
    rw [if_pos rfl] at this
    simp only [List.count_append]
    omega
   rw [e5]
   omega
  ·rw [if_neg e] at hc''
   rw [if_neg (by omega)] at hcj
   have:=h.cnt j c hc''
   omega
 ·have hy':y ∈ Rt.addL (i:Int) s.k:=hy
  rw [Rt.mem_addL] at hy'
  rcases hy' with rfl | hy'
  ·show takenZ s.cs i=true
   rw [taken_at hz]
   exact ht
  ·exact h.klive y hy'
 ·show (allV s.vs++(s.r++Qu.popS s.q)).length≤_
  simp only [Hs.all,List.length_append]
  omega
theorem gv_live {cs:List St}{i:Nat}{z:St}(hz:cs[i]?=some z)(ht:z.t=true):gvOk cs i=true∧gvC cs i=cs.set i ⟨z.c,z.g+1,false⟩:=by
 have hi:inN (i:Int) cs.length=true:=inN_t (by have:=(List.getElem?_eq_some_iff.1 hz).1;omega)
 have hs:stAt cs (i:Int)=z:=by simp [stAt,hz]
 have:gvOk cs i=true:=by simp [gvOk,hi,hs,ht]
 exact⟨this,by simp [gvC,this,hs]⟩
theorem di_count (h:Ok x s)(hb:Qu.popB s.q=true)(hd:diB s=true):∃ (i:Nat) (z:St) (l:List Vl),Qu.popA s.q=i∧i<x.n∧s.cs[i]?=some z∧z.t=true∧s.vs[i]?=some l∧(∀ y ∈ l,y.ok)∧l.length=x.sl i∧s.outs i=ptrs l∧ctZ s.ct i=Qu.popN s.q ∧
  (i:Int) ∉ allV s.vs∧(i:Int) ∉ s.r∧(i:Int) ∉ ptrs l∧(∀ y,(Qu.popS s.q).count y=if y=i then 0 else s.q.count y)∧(Qu.popS s.q).length+1≤s.q.length:=by
 obtain⟨i,z,N,e1,hi,hz,ht,e2,hN,h1,hc,hl,hct⟩:=h.pop hb
 obtain⟨l,hv,hll,hok,ho⟩:=h.row hi
 have he:ctZ s.ct i=N:=by
  unfold diB at hd
  rw [e1,e2] at hd
  simpa using hd
 have h0:(allV s.vs++s.r).count (i:Int)=0:=by omega
 rw [List.count_append] at h0
 have hv0:(i:Int) ∉ allV s.vs:=List.count_eq_zero.1 (by omega)
 exact⟨i,z,l,e1,hi,hz,ht,hv,hok,hll,ho,by rw [he,e2],hv0,List.count_eq_zero.1 (by omega),fun hm=>hv0 (ptrs_all hv hm),hc,by omega⟩
theorem Ok.di (h:Ok x s)(hb:Qu.popB s.q=true)(hd:diB s=true):Ok x (oneS x s)∧(oneS x s).all.length≤s.all.length:=by
 obtain⟨i,z,l,e1,hi,hz,ht,hv,hok,hll,ho,hct,hn1,hn2,hn3,hc,hl⟩:=di_count h hb hd
 obtain⟨g1,g2⟩:=gv_live hz ht
 have hl2:=h.l2
 have hl3:=h.l3
 have inv':=h.inv.gv i
 have hzc:=(h.inv.cell i z hz)
 rw [g2] at inv'
 unfold oneS
 rw [if_pos hd,e1]
 unfold endS
 have eo:({ s with q:=Qu.popS s.q,ch:=tick s.ch }:Hs).outs i=ptrs l:=by simp [Hs.outs,hv]
 rw [eo]
 simp only
 rw [g2,frC,frV,if_pos g1,if_pos g1,Int.toNat_natCast]
 have hcv:=allV_count hv (nils (x.sl i))
 have hlv:=allV_len hv (nils (x.sl i))
 rw [ptrs_nils] at hlv
 have hcount:∀ y:Int,(allV (s.vs.set i (nils (x.sl i)))++(s.r++(Qu.popS s.q++ptrs l))).count y=if y=i then 0 else s.all.count y:=fun y=>by
  have h1:=hcv y
  rw [ptrs_nils] at h1
  simp only [List.count_nil] at h1
  simp only [Hs.all,List.count_append,hc y]
  by_cases e:y=(i:Int)
  ·subst e
   rw [if_pos rfl,if_pos rfl]
   have:=List.count_eq_zero.2 hn1
   have:=List.count_eq_zero.2 hn2
   omega
  ·rw [if_neg e,if_neg e];omega
 have hus:=used_set (z':=⟨z.c,z.g+1,false⟩) hz
 have e5:szOf z=sizeZ (x.cz i):=by simp [szOf,ht,hzc.1]
 have e6:szOf ⟨z.c,z.g+1,false⟩=0:=by simp [szOf]
 rw [e5,e6] at hus
 have hused:=h.used
 have hfit:=h.fit
 refine⟨⟨h.may,by simpa using h.l1,by simpa using h.l2,by simpa using h.l3,inv',fun j l' hl'=>?_,fun j l' hl'=>?_,fun j y hy hyt=>?_,fun j c hc'=>?_,fun y hy=>?_,h.rinc,Rt.dropL_inc _ h.kinc,fun y hy=>?_,?_,?_⟩,?_⟩
 ·have hl'':(s.vs.set i (nils (x.sl i)))[j]?=some l':=hl'
  rw [set_any] at hl''
  split at hl''
  ·rename_i e
   subst e
   rw [if_pos (by omega)] at hl''
   obtain rfl:=Option.some.inj hl''
   simp [nils]
  ·exact h.rows j l' hl''
 ·have hl'':(s.vs.set i (nils (x.sl i)))[j]?=some l':=hl'
  rw [set_any] at hl''
  split at hl''
  ·rename_i e
   subst e
   rw [if_pos (by omega)] at hl''
   obtain rfl:=Option.some.inj hl''
   intro y hy
   rw [List.eq_of_mem_replicate hy]
   exact Vl.nil_ok
  ·exact h.vok j l' hl''
 ·have hy':(s.cs.set i ⟨z.c,z.g+1,false⟩)[j]?=some y:=hy
  show (s.ct.set i 0)[j]?=some 0∧(s.vs.set i (nils (x.sl i)))[j]?=_
  rw [at_set hz] at hy'
  rw [set_any,set_any]
  by_cases e:i=j
  ·subst e
   rw [if_pos rfl,if_pos rfl,if_pos (by omega),if_pos (by omega)]
   exact⟨rfl,rfl⟩
  ·rw [if_neg e] at hy'
   rw [if_neg e,if_neg e]
   exact h.dead j y hy' hyt
 ·show c=(((allV (s.vs.set i (nils (x.sl i)))++(s.r++(Qu.popS s.q++ptrs l))).count (j:Int):Nat):Int)
  have hc'':(s.ct.set i 0)[j]?=some c:=hc'
  rw [hcount]
  rw [set_any] at hc''
  by_cases e:i=j
  ·subst e
   rw [if_pos rfl,if_pos (by omega)] at hc''
   have:=Option.some.inj hc''
   rw [if_pos rfl]
   omega
  ·rw [if_neg e] at hc''
   rw [if_neg (by omega)]
   exact h.cnt j c hc''
 ·have hy':y ∈ allV (s.vs.set i (nils (x.sl i)))++(s.r++(Qu.popS s.q++ptrs l)):=hy
  have hp:=List.count_pos_iff.2 hy'
  rw [hcount] at hp
  by_cases e:y=(i:Int)
  ·rw [if_pos e] at hp;omega
  ·rw [if_neg e] at hp
   exact h.rng y (List.count_pos_iff.1 hp)
 ·obtain⟨k1,k2⟩:=Rt.mem_dropL.1 (show y ∈ Rt.dropL (i:Int) s.k from hy)
  exact taken_off hz k2 (h.klive y k1)
 ·show s.u - sizeZ (x.cz i)=usedL (s.cs.set i ⟨z.c,z.g+1,false⟩)
  omega
 ·have hp:=used_pos (s.cs.set i ⟨z.c,z.g+1,false⟩) (fun y hy=>by
   obtain⟨j,hj⟩:=List.mem_iff_getElem?.1 hy
   exact (inv'.cell j y hj).2.1)
  have:=size_pos (x.cz i)
  exact⟨show 0≤s.u - sizeZ (x.cz i) by omega,show s.u - sizeZ (x.cz i)≤x.q by have:=hfit.ut;omega,hfit.t1⟩
 ·show (allV (s.vs.set i (nils (x.sl i)))++(s.r++(Qu.popS s.q++ptrs l))).length≤_
  simp only [Hs.all,List.length_append,List.length_nil] at hlv ⊢
  omega
theorem Ok.one (h:Ok x s)(hb:Qu.popB s.q=true):Ok x (oneS x s)∧(oneS x s).all.length≤s.all.length:=by
 cases hd:diB s
 ·exact h.lo hb hd
 ·exact h.di hb hd
end
theorem Ok.dn {x:Sh}:∀ (n:Nat) {s:Hs},Ok x s→Ok x (dnS x n s)∧(dnS x n s).all.length≤s.all.length
 | 0,s,h=>⟨h,Nat.le_refl _⟩
 | n+1,s,h=>by
  unfold dnS
  split
  ·rename_i hb
   obtain⟨h1,h2⟩:=h.one hb
   obtain⟨h3,h4⟩:=Ok.dn n h1
   exact⟨h3,Nat.le_trans h4 h2⟩
  ·exact⟨h,Nat.le_refl _⟩
end Hp
end Go.Proofs.YtdhgpmndgcggfaaGreatDoor
namespace Go.Proofs.YtdhgpmndgcggfaaGreatDoor
namespace Hp
open Go.RowKit
def Hs.gr (s:Hs):Gr.Gp:=⟨(liveTo s.cs s.cs.length).map fun i=>⟨i,s.outs i⟩,s.r⟩
theorem mem_live {cs:List St}{c:Int}:∀ {j:Nat},c ∈ liveTo cs j→∃ (i:Nat) (z:St),c=i∧i<j∧cs[i]?=some z∧z.t=true
 | 0,h=>by simp [liveTo] at h
 | j+1,h=>by
  rw [liveTo,List.mem_append] at h
  rcases h with h | h
  ·obtain⟨i,z,e,hi,hz,ht⟩:=mem_live h
   exact⟨i,z,e,by omega,hz,ht⟩
  ·split at h
   ·rename_i hj
    cases hz:cs[j]? with
    | none=>rw [hz] at hj;cases hj
    | some z =>
     rw [hz] at hj
     exact⟨j,z,by simpa using h,by omega,hz,by simpa using hj⟩
   ·cases h
theorem live_in {cs:List St}{i:Nat}{z:St}(hz:cs[i]?=some z)(ht:z.t=true):∀ {j:Nat},i<j→(i:Int) ∈ liveTo cs j
 | 0,h=>by omega
 | j+1,h=>by
  rw [liveTo,List.mem_append]
  by_cases e:i=j
  ·subst e
   right
   rw [hz]
   simp [ht]
  ·exact Or.inl (live_in hz ht (by omega))
theorem live_inc (cs:List St):∀ j,(liveTo cs j).Pairwise (·<·)
 | 0=>by simp [liveTo]
 | j+1=>by
  rw [liveTo,List.pairwise_append]
  refine⟨live_inc cs j,by split <;> simp,fun a ha b hb=>?_⟩
  obtain⟨i,z,rfl,hi,_⟩:=mem_live ha
  split at hb
  ·simp at hb
   omega
  ·cases hb
theorem gr_ids (s:Hs):Gr.ids s.gr=liveTo s.cs s.cs.length:=by
 unfold Gr.ids Hs.gr
 simp [Function.comp_def]
theorem live_iff {s:Hs}{z:Int}:z ∈ Gr.ids s.gr ↔ takenZ s.cs z=true:=by
 rw [gr_ids]
 constructor
 ·intro h
  obtain⟨i,y,rfl,hi,hy,ht⟩:=mem_live h
  rw [taken_at hy,ht]
 ·intro h
  obtain⟨i,y,rfl,hy,ht⟩:=taken_in h
  exact live_in hy ht (List.getElem?_eq_some_iff.1 hy).1
theorem mem_nodes {s:Hs}{n:Gr.Nd}:n ∈ s.gr.nodes ↔ takenZ s.cs n.id=true∧n.out=s.outs n.id:=by
 rw [← live_iff,gr_ids]
 unfold Hs.gr
 rw [List.mem_map]
 constructor
 ·rintro ⟨i,hi,rfl⟩
  exact⟨hi,rfl⟩
 ·rintro ⟨hi,ho⟩
  exact⟨n.id,hi,by rw [← ho]⟩
section
variable {x:Sh}{s:Hs}
theorem Ok.ptr_in (h:Ok x s){i:Nat}(hi:i<x.n){c:Int}(hc:c ∈ s.outs i):c ∈ s.all:=by
 obtain⟨l,hv,_,_,ho⟩:=h.row hi
 rw [ho] at hc
 exact List.mem_append_left _ (ptrs_all hv hc)
theorem Ok.small64 (h:Ok x s){c:Int}(hc:inN c x.n=true):i64ok c:=by
 have:=inN_in hc
 have:=(x.count h.may).2
 unfold i64ok
 omega
theorem Ok.all_live (h:Ok x s){z:Int}(hz:z ∈ s.all):takenZ s.cs z=true:=by
 obtain⟨i,y,rfl,_,hy,ht⟩:=h.live hz
 rw [taken_at hy,ht]
theorem Ok.live_lt (h:Ok x s){z:Int}(hz:takenZ s.cs z=true):∃ (i:Nat) (y:St),z=i∧i<x.n∧s.cs[i]?=some y∧y.t=true:=by
 obtain⟨i,y,rfl,hy,ht⟩:=taken_in hz
 have:=h.l1
 exact⟨i,y,rfl,by have:=(List.getElem?_eq_some_iff.1 hy).1;omega,hy,ht⟩
theorem Ok.out_live (h:Ok x s){z o:Int}(hz:takenZ s.cs z=true)(ho:o ∈ s.outs z):takenZ s.cs o=true:=by
 obtain⟨i,y,rfl,hi,hy,ht⟩:=h.live_lt hz
 exact h.all_live (h.ptr_in hi ho)
theorem Ok.right (h:Ok x s):Gr.rightB s.gr=true:=by
 unfold Gr.rightB
 simp only [Bool.and_eq_true,List.all_eq_true,Gr.riseF_iff,Gr.withinB_iff]
 refine⟨fun n hn o ho=>?_,⟨?_,?_⟩,?_⟩
 ·obtain⟨h1,h2⟩:=mem_nodes.1 hn
  rw [h2] at ho
  exact live_iff.2 (h.out_live h1 ho)
 ·rw [gr_ids]
  refine⟨live_inc _ _,fun z hz=>?_⟩
  obtain⟨i,y,rfl,_⟩:=mem_live hz
  omega
 ·exact⟨h.rinc.1,fun z hz=>by have:=h.rinc.2 z hz;omega⟩
 ·intro z hz
  exact live_iff.2 (h.all_live (by simp [Hs.all,show z ∈ s.r from hz]))
theorem Ok.ri (h:Ok x s):Gr.Ri s.gr:=Gr.rightB_ri h.right
theorem Ok.flat (h:Ok x s)(z:Int):∀ j,j≤x.n→((liveTo s.cs j).flatMap s.outs).count z=((s.vs.take j).flatMap ptrs).count z
 | 0,_=>rfl
 | j+1,hj=>by
  have ih:=Ok.flat h z j (by omega)
  obtain⟨l,hv,hl,_,ho⟩:=h.row (i:=j) (by omega)
  have hl1:=h.l1
  obtain⟨y,hy⟩:∃ y,s.cs[j]?=some y:=⟨_,List.getElem?_eq_getElem (by omega)⟩
  rw [List.take_add_one,hv,List.flatMap_append,List.count_append,← ih]
  cases ht:y.t
  ·rw [live_no hy ht]
   have:=(h.dead j y hy ht).2
   rw [hv] at this
   obtain rfl:=Option.some.inj this
   simp [ptrs_nils]
  ·rw [live_yes hy ht,List.flatMap_append,List.count_append]
   simp [ho]
theorem Ok.allP (h:Ok x s)(z:Int):(Gr.allP s.gr).count z=s.r.count z+(allV s.vs).count z:=by
 have h1:=h.flat z x.n (Nat.le_refl _)
 rw [List.take_of_length_le (by rw [h.l3];exact Nat.le_refl _)] at h1
 unfold Gr.allP Hs.gr
 rw [List.count_append,List.flatMap_map,h.l1]
 show _+((liveTo s.cs x.n).flatMap s.outs).count z=_
 rw [h1]
 rfl
theorem Ok.counted (h:Ok x s){z:Int}(hz:takenZ s.cs z=true):ctZ s.ct z=((Gr.allP s.gr).count z:Int)+Qu.tm s.q z:=by
 obtain⟨i,y,rfl,hi,hy,ht⟩:=h.live_lt hz
 rw [h.ctz hi,h.allP]
 unfold Qu.tm Qu.cnt
 simp only [Hs.all,List.count_append]
 omega
theorem Ok.sizes (h:Ok x s):∀ j,j≤x.n→((liveTo s.cs j).map (fun i=>sizeZ (x.cz i))).sum=((s.cs.take j).map szOf).sum
 | 0,_=>rfl
 | j+1,hj=>by
  have ih:=Ok.sizes h j (by omega)
  have hl1:=h.l1
  obtain⟨y,hy⟩:∃ y,s.cs[j]?=some y:=⟨_,List.getElem?_eq_getElem (by omega)⟩
  have hc:=(h.inv.cell j y hy).1
  rw [List.take_add_one,hy,List.map_append,List.sum_append,← ih]
  cases ht:y.t
  ·rw [live_no hy ht]
   simp [szOf,ht]
  ·rw [live_yes hy ht,List.map_append,List.sum_append]
   simp [szOf,ht,hc]
theorem Ok.sized (h:Ok x s):((liveTo s.cs s.cs.length).map (fun i=>sizeZ (x.cz i))).sum=s.u:=by
 rw [h.used,usedL,h.l1,h.sizes x.n (Nat.le_refl _),List.take_of_length_le (by rw [h.l1];exact Nat.le_refl _)]
end
end Hp
end Go.Proofs.YtdhgpmndgcggfaaGreatDoor
namespace Go.Proofs.YtdhgpmndgcggfaaGreatDoor
namespace Hp
open Go.RowKit
def Hs.src (s:Hs):List Int:=s.r++(s.k++s.q)
def Cov (s:Hs):Prop:=∀ z,takenZ s.cs z=true→Gr.Rch s.gr s.src z
theorem mem_src {s:Hs}{z:Int}:z ∈ s.src ↔ z ∈ s.r∨z ∈ s.k∨z ∈ s.q:=by simp [Hs.src]
section
variable {x:Sh}{s t:Hs}
theorem cov_to (hC:Cov s)(c:Int→Prop)(h1:∀ z,takenZ t.cs z=true→¬ c z∧(takenZ s.cs z=true∨z ∈ t.src))
  (h2:∀ z,takenZ s.cs z=true→z ∈ s.src→c z∨(z ∈ t.src∧takenZ t.cs z=true))
  (h3:∀ d,takenZ s.cs d=true→¬ c d→takenZ t.cs d=true∧∀ o ∈ s.outs d,o ∈ t.outs d∨(o ∈ t.src∧takenZ t.cs o=true)∨c o)
  (h4:∀ d,takenZ s.cs d=true→c d→∀ o ∈ s.outs d,c o∨(o ∈ t.src∧takenZ t.cs o=true)):Cov t:=by
 intro z hz S hs hn
 obtain⟨hc,hz'⟩:=h1 z hz
 rcases hz' with hz' | hz'
 ·have key:=hC z hz' (fun y=>c y∨S y) (fun y hy hf=>?_) (fun n hn' hS o ho=>?_)
  ·exact key.resolve_left hc
  ·rcases h2 y (live_iff.1 hy) hf with h | ⟨h,h'⟩
   ·exact Or.inl h
   ·exact Or.inr (hs y (live_iff.2 h') h)
  ·obtain⟨hl,ho'⟩:=mem_nodes.1 hn'
   rw [ho'] at ho
   by_cases hcd:c n.id
   ·rcases h4 n.id hl hcd o ho with h | ⟨h,h'⟩
    ·exact Or.inl h
    ·exact Or.inr (hs o (live_iff.2 h') h)
   ·obtain⟨g1,g2⟩:=h3 n.id hl hcd
    rcases g2 o ho with h | ⟨h,h'⟩ | h
    ·exact Or.inr (hn ⟨n.id,t.outs n.id⟩ (mem_nodes.2 ⟨g1,rfl⟩) (hS.resolve_left hcd) o h)
    ·exact Or.inr (hs o (live_iff.2 h') h)
    ·exact Or.inl h
 ·exact hs z (live_iff.2 hz) hz'
theorem cov_more (hC:Cov s)(h1:∀ z,takenZ t.cs z=true→takenZ s.cs z=true∨z ∈ t.src)(h2:∀ z,takenZ s.cs z=true→takenZ t.cs z=true)(h3:∀ z,z ∈ s.src→z ∈ t.src)
  (h4:∀ d,takenZ s.cs d=true→∀ o ∈ s.outs d,o ∈ t.outs d∨(o ∈ t.src∧takenZ t.cs o=true)):Cov t :=
 cov_to hC (fun _=>False) (fun z hz=>⟨fun h=>h,h1 z hz⟩) (fun z hz hf=>Or.inr ⟨h3 z hf,h2 z hz⟩) (fun d hd _=>⟨h2 d hd,fun o ho=>(h4 d hd o ho).imp id Or.inl⟩) (fun _ _ h=>h.elim)
theorem Cov.al (h:Ok x s)(hC:Cov s)(n:Int):Cov (alS x s n):=by
 unfold alS
 by_cases he:alE x s n=0
 ·rw [if_pos he]
  obtain⟨i,z,e1,hi,hz,ht,hc,e3,e2,_,_⟩:=al_yes h he
  rw [e1,e3]
  refine cov_more hC (fun y hy=>?_) (fun y hy=>taken_set hz rfl hy) (fun y hy=>?_) (fun d hd o ho=>Or.inl ho)
  ·by_cases e:y=i
   ·right
    rw [mem_src]
    left
    show y ∈ Rt.addL (i:Int) s.r
    rw [Rt.mem_addL]
    exact Or.inl e
   ·left
    obtain⟨j,v,rfl,hv,hvt⟩:=taken_in hy
    have hv':(s.cs.set i ⟨z.c,z.g,true⟩)[j]?=some v:=hv
    rw [at_set hz,if_neg (by omega)] at hv'
    rw [taken_at hv',hvt]
  ·rw [mem_src] at hy ⊢
   rcases hy with hy | hy
   ·left
    show y ∈ Rt.addL (i:Int) s.r
    rw [Rt.mem_addL]
    exact Or.inr hy
   ·exact Or.inr hy
 ·rw [if_neg he]
  exact hC
theorem Cov.ho (hC:Cov s)(n:Int):Cov (hoS x s n):=by
 unfold hoS
 split
 ·refine cov_more hC (fun y hy=>Or.inl hy) (fun y hy=>hy) (fun y hy=>?_) (fun d hd o ho=>Or.inl ho)
  rw [mem_src] at hy ⊢
  rcases hy with hy | hy
  ·left
   show y ∈ Rt.addL n s.r
   rw [Rt.mem_addL]
   exact Or.inr hy
  ·exact Or.inr hy
 ·exact hC
theorem Cov.dr (hC:Cov s)(n:Int):Cov (drS x s n):=by
 unfold drS
 split
 ·refine cov_more hC (fun y hy=>Or.inl hy) (fun y hy=>hy) (fun y hy=>?_) (fun d hd o ho=>Or.inl ho)
  rw [mem_src] at hy ⊢
  show y ∈ Rt.dropL n s.r∨y ∈ s.k∨y ∈ s.q++[n]
  rw [Rt.mem_dropL,List.mem_append]
  rcases hy with hy | hy | hy
  ·by_cases e:y=n
   ·exact Or.inr (Or.inr (Or.inr (by simp [e])))
   ·exact Or.inl ⟨hy,e⟩
  ·exact Or.inr (Or.inl hy)
  ·exact Or.inr (Or.inr (Or.inl hy))
 ·exact hC
theorem outs_set {vs:List (List Vl)}{i:Nat}{l l':List Vl}(hv:vs[i]?=some l)(d:Int):ptrs ((vs.set i l')[d.toNat]?.getD [])=if d.toNat=i then ptrs l' else ptrs (vs[d.toNat]?.getD []):=by
 by_cases e:d.toNat=i
 ·subst e
  rw [if_pos rfl,List.getElem?_set_self (List.getElem?_eq_some_iff.1 hv).1]
  rfl
 ·rw [if_neg e,List.getElem?_set_ne (fun h=>e h.symm)]
theorem mem_set_ptrs {k:Nat}{l:List Vl}{o y:Vl}(h:l[k]?=some o){z:Int}(hz:z ∈ ptrs l):z ∈ ptrs (l.set k y)∨z ∈ ptrs [o]:=by
 have hc:=ptrs_set (y:=y) h (List.count z) (fun _ _=>List.count_append ..)
 have hp:0<(ptrs l).count z:=List.count_pos_iff.2 hz
 by_cases e:z ∈ ptrs (l.set k y)
 ·exact Or.inl e
 ·rw [List.count_eq_zero.2 e] at hc
  exact Or.inr (List.count_pos_iff.1 (by omega))
theorem Cov.pu (h:Ok x s)(hC:Cov s)(n k:Int)(y:Vl):Cov (puS x s n k y):=by
 unfold puS
 split
 ·rename_i he
  have hf:fiE x s n k y=0:=by
   unfold puE at he
   split at he
   ·assumption
   ·exact he
  obtain⟨i,j,z,rfl,rfl,hi,hj,hz,ht,hr,hp⟩:=fi_yes h hf
  obtain⟨l,hv,hl,_,_⟩:=h.row hi
  obtain⟨o,ho⟩:∃ o,l[j]?=some o:=⟨_,List.getElem?_eq_getElem (by omega)⟩
  have ev:vlAt s.vs i j=o:=by simp [vlAt,hv,ho]
  refine cov_more hC (fun y hy=>Or.inl hy) (fun y hy=>hy) (fun y hy=>?_) (fun d hd q hq=>?_)
  ·rw [mem_src] at hy ⊢
   refine hy.imp id (fun hy=>hy.imp id (fun hy=>?_))
   show y ∈ s.q++_
   exact List.mem_append_left _ hy
  ·have e2:(rpS { s with ct:=if ptB y=true then upC s y.n else s.ct,ch:=tick s.ch } i j y).outs d=ptrs ((s.vs.set i (l.set j y))[d.toNat]?.getD []):=by
    unfold rpS Hs.outs
    simp [hv]
   rw [e2,outs_set hv]
   by_cases e:d.toNat=i
   ·rw [if_pos e]
    have hq':q ∈ ptrs l:=by
     unfold Hs.outs at hq
     rw [e,hv] at hq
     exact hq
    rcases mem_set_ptrs (y:=y) ho hq' with h1 | h1
    ·exact Or.inl h1
    ·right
     refine⟨?_,?_⟩
     ·rw [mem_src]
      right;right
      show q ∈ s.q++ptrs [vlAt s.vs i j]
      rw [ev]
      exact List.mem_append_right _ h1
     ·exact h.out_live hd hq
   ·rw [if_neg e]
    exact Or.inl hq
 ·exact hC
theorem one_lo (_:Qu.popB s.q=true)(hd:diB s=false):oneS x s=loS { s with q:=Qu.popS s.q,ch:=tick s.ch } (Qu.popA s.q) (Qu.popN s.q):=by
 unfold oneS
 rw [if_neg (by rw [hd];simp)]
theorem mem_pop {q:List Int}(hb:Qu.popB q=true){z:Int}(hz:z ∈ q):z=Qu.popA q∨z ∈ Qu.popS q:=by
 obtain⟨c,r,rfl,e1,_,e3⟩:=pop_cons hb
 rw [e1,e3,Rt.mem_dropL]
 by_cases e:z=c
 ·exact Or.inl e
 ·exact Or.inr ⟨by simpa [e] using hz,e⟩
theorem Ok.di_is (h:Ok x s)(hb:Qu.popB s.q=true)(hd:diB s=true):∃ (i:Nat) (z:St) (l:List Vl),Qu.popA s.q=i∧s.cs[i]?=some z∧z.t=true∧s.vs[i]?=some l∧(i:Int) ∉ allV s.vs∧(i:Int) ∉ s.r∧s.outs i=ptrs l ∧
  oneS x s=⟨s.cs.set i ⟨z.c,z.g+1,false⟩,gvP s.cs s.p i,s.ct.set i 0,s.vs.set i (nils (x.sl i)),s.u - sizeZ (x.cz i),s.r,Rt.dropL i s.k,Qu.popS s.q++ptrs l,tick s.ch⟩:=by
 obtain⟨i,z,l,e1,hi,hz,ht,hv,hok,hll,ho,hct,hn1,hn2,hn3,hc,hl⟩:=di_count h hb hd
 obtain⟨g1,g2⟩:=gv_live hz ht
 refine⟨i,z,l,e1,hz,ht,hv,hn1,hn2,ho,?_⟩
 unfold oneS
 rw [if_pos hd,e1]
 unfold endS
 have eo:({ s with q:=Qu.popS s.q,ch:=tick s.ch }:Hs).outs i=ptrs l:=by simp [Hs.outs,hv]
 rw [eo]
 simp only
 rw [g2,frC,frV,if_pos g1,if_pos g1,Int.toNat_natCast]
theorem taken_back {cs:List St}{i:Nat}{z z':St}(hz:cs[i]?=some z)(ht:z'.t=false){n:Int}(h:takenZ (cs.set i z') n=true):n≠i∧takenZ cs n=true:=by
 obtain⟨j,y,rfl,hy,hyt⟩:=taken_in h
 rw [at_set hz] at hy
 by_cases e:i=j
 ·rw [if_pos e] at hy
  obtain rfl:=Option.some.inj hy
  rw [ht] at hyt
  cases hyt
 ·rw [if_neg e] at hy
  exact⟨by omega,by rw [taken_at hy,hyt]⟩
theorem Cov.one (h:Ok x s)(hC:Cov s)(hb:Qu.popB s.q=true):Cov (oneS x s):=by
 have hok:=(h.one hb).1
 cases hd:diB s
 ·rw [one_lo hb hd]
  refine cov_more hC (fun y hy=>Or.inl hy) (fun y hy=>hy) (fun y hy=>?_) (fun d hd o ho=>Or.inl ho)
  rw [mem_src] at hy ⊢
  show y ∈ s.r∨y ∈ Rt.addL (Qu.popA s.q) s.k∨y ∈ Qu.popS s.q
  rw [Rt.mem_addL]
  rcases hy with hy | hy | hy
  ·exact Or.inl hy
  ·exact Or.inr (Or.inl (Or.inr hy))
  ·rcases mem_pop hb hy with e | e
   ·exact Or.inr (Or.inl (Or.inl e))
   ·exact Or.inr (Or.inr e)
 ·obtain⟨i,z,l,e1,hz,ht,hv,hn1,hn2,ho,es⟩:=h.di_is hb hd
  rw [es] at hok ⊢
  have hsrc:∀ q,q ∈ ptrs l→q≠i∧takenZ s.cs q=true:=fun q hq=>⟨fun e=>hn1 (ptrs_all hv (e ▸ hq)),h.all_live (List.mem_append_left _ (ptrs_all hv hq))⟩
  refine cov_to hC (fun y=>y=(i:Int)) (fun y hy=>?_) (fun y hy hf=>?_) (fun d hdl hne=>?_) (fun d hdl he q hq=>?_)
  ·obtain⟨h1,h2⟩:=taken_back hz rfl hy
   exact⟨h1,Or.inl h2⟩
  ·by_cases e:y=(i:Int)
   ·exact Or.inl e
   ·refine Or.inr ⟨?_,taken_off hz e hy⟩
    rw [mem_src] at hf ⊢
    show y ∈ s.r∨y ∈ Rt.dropL (i:Int) s.k∨y ∈ Qu.popS s.q++ptrs l
    rw [Rt.mem_dropL,List.mem_append]
    rcases hf with hf | hf | hf
    ·exact Or.inl hf
    ·exact Or.inr (Or.inl ⟨hf,e⟩)
    ·rcases mem_pop hb hf with e2 | e2
     ·rw [e1] at e2;exact absurd e2 e
     ·exact Or.inr (Or.inr (Or.inl e2))
  ·refine⟨taken_off hz hne hdl,fun q hq=>?_⟩
   left
   obtain⟨j,v,rfl,hj,hvj,hvt⟩:=h.live_lt hdl
   unfold Hs.outs at hq ⊢
   rw [outs_set hv,if_neg (by rw [Int.toNat_natCast];intro e;exact hne (by omega))]
   exact hq
  ·right
   subst he
   rw [ho] at hq
   obtain⟨h1,h2⟩:=hsrc q hq
   refine⟨?_,taken_off hz h1 h2⟩
   rw [mem_src]
   exact Or.inr (Or.inr (List.mem_append_right _ hq))
theorem Cov.dn:∀ (n:Nat) {s:Hs},Ok x s→Cov s→Cov (dnS x n s)
 | 0,s,_,hC=>hC
 | n+1,s,h,hC=>by
  unfold dnS
  split
  ·rename_i hb
   exact Cov.dn n (h.one hb).1 (Cov.one h hC hb)
  ·exact hC
theorem held_one (h:Ok x s)(hb:Qu.popB s.q=true){z:Int}(hz:Gr.Rch s.gr s.r z):Gr.Rch (oneS x s).gr (oneS x s).r z:=by
 intro S hs hn
 cases hd:diB s
 ·rw [one_lo hb hd] at hs hn
  refine hz S (fun y hy hf=>hs y hy hf) (fun n hn' hS o ho=>hn n hn' hS o ho)
 ·obtain⟨i,v,l,e1,hv,ht,hvl,hn1,hn2,ho,es⟩:=h.di_is hb hd
  rw [es] at hs hn
  have key:=hz (fun y=>S y∧y≠i) (fun y hy hf=>?_) (fun n hn' hS o ho'=>?_)
  ·exact key.1
  ·have hne:y≠i:=fun e=>hn2 (e ▸ hf)
   exact⟨hs y (live_iff.2 (taken_off hv hne (live_iff.1 hy))) hf,hne⟩
  ·obtain⟨hl,hout⟩:=mem_nodes.1 hn'
   rw [hout] at ho'
   have hne:o≠i:=fun e=>hn1 (by
    obtain⟨j,w,ej,hj,hwj,_⟩:=h.live_lt hl
    obtain⟨l',hv',_,_,ho2⟩:=h.row hj
    rw [ej,ho2] at ho'
    exact e ▸ ptrs_all hv' ho')
   refine⟨hn ⟨n.id,s.outs n.id⟩ (mem_nodes.2 ⟨taken_off hv hS.2 hl,?_⟩) hS.1 o ho',hne⟩
   obtain⟨j,w,ej,hj,hwj,_⟩:=h.live_lt hl
   show s.outs n.id=ptrs ((s.vs.set i (nils (x.sl i)))[n.id.toNat]?.getD [])
   rw [outs_set hvl,if_neg (by rw [ej,Int.toNat_natCast];intro e;exact hS.2 (by omega))]
   rfl
end
end Hp
end Go.Proofs.YtdhgpmndgcggfaaGreatDoor
