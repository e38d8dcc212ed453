/- Plain: a world: its tenants, tables, letters; what each operation answers, and leaves. Plain: apart: what is answered to B hangs not on A's operations, if nothing is granted between them. Plain: issued: which proxies were told; what was not told names nothing; what was closed is stale for good. Plain: issued: behind each operation. Plain: issued: any operation keeps what holds of the entries, and of the words that were told; what the law asks of its answer. Plain: issued: the tenants' words; what the law asks of an operation's answer. Plain: what waits in an inbox has the generation that its entry has now; inboxes by pairs; what an operation leaves of them. Plain: a tenant is a user of its heap: what holds of its collector holds behind any act of its. Plain: the two runs of P17.2 tell the same; bounds behind any operations; changes; what holds of each tenant's collector. Plain: what holds at the beginning; a root's word is of Kind root; the law's words kept beside any operations. -/
import Derived.Test.YtdhgpmndgcggfaaGreatDoorLcTenA
import Derived.Test.YtdhgpmndgcggfaaGreatDoorLcPrx
import Derived.Test.YtdhgpmndgcggfaaGreatDoorLcCol
namespace Go.Proofs.YtdhgpmndgcggfaaGreatDoor
namespace Wl
open Hp Tn Px
structure Wt where
 x:Sh
 s:Hs
 c:Cs
structure Lt where
 rc:Int
 fr:Int
 en:Int
 ge:Int
def samB (y z:Lt):Bool:=y.rc == z.rc && y.fr == z.fr && y.en == z.en && y.ge == z.ge
theorem sam_iff {y z:Lt}:samB y z=true ↔ y=z:=by
 unfold samB
 simp only [Bool.and_eq_true,beq_iff_eq]
 constructor
 ·rintro ⟨⟨⟨h1,h2⟩,h3⟩,h4⟩
  cases y;cases z
  simp_all
 ·rintro rfl
  exact⟨⟨⟨rfl,rfl⟩,rfl⟩,rfl⟩
structure Ws where
 t:List Wt
 x:Int→Int→List En
 l:List Lt
structure Op where
 d:Int
 t:Int
 w:Int
 o:Int
 n:Int
 m:Int
def isT (W:Ws)(i:Int):Bool:=decide (1≤i) && decide (i≤W.t.length)
def tn (W:Ws)(i:Int):Option Wt:=if i<1 then none else W.t[(i - 1).toNat]?
def setT (W:Ws)(i:Int)(y:Wt):Ws:={ W with t:=W.t.set (i - 1).toNat y }
def upX (f:Int→Int→List En)(i k:Int)(l:List En):Int→Int→List En:=fun a b=>if a=i∧b=k then l else f a b
def setX (W:Ws)(i k:Int)(l:List En):Ws:={ W with x:=upX W.x i k l }
def kOf (d:Int):Int:=if d=0 then 1 else if d=1 then 2 else if d=2 then 3 else if d=3 then 4 else if d=4 then 5 else if d=10 then 6 else if d=11 then 7 else if d=12 then 8 else 0
def actOf (o:Op):Tact:=⟨kOf o.d,o.w,o.o,o.n,o.m⟩
def pxw (N i g:Int):Int:=1152921504606846976 * (N - 1)+576460752303423488+4294967296 * i+g
def othB (W:Ws)(t n:Int):Bool:=isT W n && !(n == t)
def frI (w:Int):Int:=wdI w / 8+1
def enI (w:Int):Int:=wdI w % 8
def fdB (W:Ws)(t w:Int):Bool:=wdK w == 2 && wdT w == t && othB W t (frI w) && !(W.l.any fun y=>samB y ⟨t,frI w,enI w,wdG w⟩)
def ltB (t n:Int)(y:Lt):Bool:=y.rc == t && y.fr == n
section
variable (W:Ws)(o:Op)(τ:Wt)
def grA:An :=
 if othB W o.t o.n=true then (if nmE τ.x o.t τ.s o.w=0 then (if grE (W.x o.t o.n) (wdI o.w) (genZ τ.s.cs (wdI o.w))=0 then datum (grV (W.x o.t o.n) (wdI o.w) (genZ τ.s.cs (wdI o.w))) else wrong (grE (W.x o.t o.n) (wdI o.w) (genZ τ.s.cs (wdI o.w)))) else wrong (nmE τ.x o.t τ.s o.w)) else wrong 3
def grW:Ws :=
 if othB W o.t o.n=true∧nmE τ.x o.t τ.s o.w=0∧grE (W.x o.t o.n) (wdI o.w) (genZ τ.s.cs (wdI o.w))=0 then
  { (setX W o.t o.n (grS (W.x o.t o.n) (wdI o.w) (genZ τ.s.cs (wdI o.w)))) with l:=W.l++[⟨o.n,o.t,grV (W.x o.t o.n) (wdI o.w) (genZ τ.s.cs (wdI o.w)),gnZ (W.x o.t o.n) (grV (W.x o.t o.n) (wdI o.w) (genZ τ.s.cs (wdI o.w)))⟩] } else W
def rvB:Bool:=othB W o.t o.n && decide (0≤o.m) && decide (o.m≤7)
def rvA:An:=if rvB W o=true then wrong (rvE (W.x o.t o.n) o.m) else wrong 3
def rvW:Ws:=if rvB W o=true then setX W o.t o.n (rvS (W.x o.t o.n) o.m) else W
def acA:An :=
 if othB W o.t o.n=true then (match W.l.find? (ltB o.t o.n) with | some y=>⟨0,2,pxw o.t (8 * (o.n - 1)+y.en) y.ge⟩ | none=>wrong 9) else wrong 3
def acW:Ws:=if othB W o.t o.n=true then { W with l:=W.l.eraseP (ltB o.t o.n) } else W
def pkA:An :=
 if fdB W o.t o.w=true then (if lkE (W.x (frI o.w) o.t) (enI o.w) (wdG o.w)=0 then (match tn W (frI o.w) with
   | some z=>lookA z.x z.s (lkA (W.x (frI o.w) o.t) (enI o.w) (wdG o.w)) (lkB (W.x (frI o.w) o.t) (enI o.w) (wdG o.w)) o.n | none=>wrong 3)
  else wrong (lkE (W.x (frI o.w) o.t) (enI o.w) (wdG o.w))) else wrong 4
def clA:An:=if fdB W o.t o.w=true then wrong (wrE (W.x (frI o.w) o.t) (enI o.w) (wdG o.w)) else wrong 4
def clW:Ws:=if fdB W o.t o.w=true then setX W (frI o.w) o.t (clS (W.x (frI o.w) o.t) (enI o.w) (wdG o.w)) else W
end
def doA (W:Ws)(o:Op):An :=
 match tn W o.t with
 | none=>wrong 3
 | some τ=>if kOf o.d≠0 then tnA τ.x o.t τ.s τ.c (actOf o) else if o.d=5 then grA W o τ else if o.d=6 then rvA W o else if o.d=7 then acA W o else if o.d=8 then pkA W o else if o.d=9 then clA W o else wrong 3
def doW (W:Ws)(o:Op):Ws :=
 match tn W o.t with
 | none=>W
 | some τ=>if kOf o.d≠0 then setT W o.t ⟨τ.x,tnS τ.x o.t τ.s τ.c (actOf o),tnC τ.x τ.s τ.c (actOf o)⟩ else if o.d=5 then grW W o τ else if o.d=6 then rvW W o else if o.d=7 then acW W o else if o.d=9 then clW W o else W
def beginW (l:List Sh):Ws:=⟨l.map fun x=>⟨x,Hs.init x,Cs.init⟩,fun _ _=>begL,[]⟩
end Wl
end Go.Proofs.YtdhgpmndgcggfaaGreatDoor
namespace Go.Proofs.YtdhgpmndgcggfaaGreatDoor
namespace Wl
open Hp Tn Px
section
variable {a b i k:Int}{W V:Ws}{o:Op}{τ y:Wt}{e:List En}
theorem tn_setT (hi:1≤i):tn (setT W i y) k=if k=i∧(i - 1).toNat<W.t.length then some y else tn W k:=by
 unfold tn setT
 by_cases hk:k<1
 ·rw [if_pos hk,if_pos hk,if_neg (by omega)]
 ·rw [if_neg hk,if_neg hk]
  simp only [List.getElem?_set]
  by_cases e:k=i
  ·subst e
   rw [if_pos rfl]
   by_cases hl:(k - 1).toNat<W.t.length
   ·rw [if_pos hl,if_pos ⟨rfl,hl⟩]
   ·rw [if_neg hl,if_neg (fun h=>hl h.2),List.getElem?_eq_none (by omega)]
  ·rw [if_neg (by omega),if_neg (fun h=>e h.1)]
theorem tn_some (h:tn W i=some τ):1≤i∧(i - 1).toNat<W.t.length∧isT W i=true:=by
 unfold tn at h
 split at h
 ·cases h
 ·have:=(List.getElem?_eq_some_iff.1 h).1
  refine⟨by omega,this,?_⟩
  unfold isT
  simp only [Bool.and_eq_true,decide_eq_true_eq]
  omega
theorem tn_none (h:tn W i=none):isT W i=false:=by
 unfold tn at h
 unfold isT
 split at h
 ·simp;omega
 ·have:=List.getElem?_eq_none_iff.1 h
  simp;omega
theorem upX_at {f:Int→Int→List En}{i k u v:Int}:upX f i k e u v=if u=i∧v=k then e else f u v:=rfl
theorem eraseP_off {p q:Lt→Bool}(h:∀ y,p y=true→q y=false):∀ l:List Lt,(l.eraseP p).filter q=l.filter q
 | []=>rfl
 | y::l=>by
  rw [List.eraseP_cons]
  cases hp:p y
  ·simp only [cond_false,List.filter_cons,eraseP_off h l]
  ·simp only [cond_true,List.filter_cons,h y hp]
   simp
theorem eraseP_on {p q:Lt→Bool}(h:∀ y,p y=true→q y=true):∀ l:List Lt,(l.eraseP p).filter q=(l.filter q).eraseP p
 | []=>rfl
 | y::l=>by
  rw [List.eraseP_cons]
  cases hp:p y
  ·simp only [cond_false,List.filter_cons,eraseP_on h l]
   split
   ·rw [List.eraseP_cons,hp];rfl
   ·rfl
  ·simp only [cond_true,List.filter_cons,h y hp,if_true]
   rw [List.eraseP_cons,hp];rfl
end
end Wl
end Go.Proofs.YtdhgpmndgcggfaaGreatDoor
namespace Go.Proofs.YtdhgpmndgcggfaaGreatDoor
namespace Wl
open Hp Tn Px
structure Wd where
 w:Int
 t:Int
 b:Bool
section
variable {W V:Ws}{wd:List Wd}{o:Op}{τ y:Wt}{i k t w:Int}{a:An}{e:List En}
theorem oth_is (h:othB W t k=true):isT W k=true∧t≠k:=by
 unfold othB at h
 simp only [Bool.and_eq_true,Bool.not_eq_true',beq_eq_false_iff_ne] at h
 exact⟨h.1,fun e=>h.2 e.symm⟩
theorem isT_is (h:isT W k=true):1≤k∧k≤W.t.length:=by
 unfold isT at h
 simpa using h
theorem fd_is (h:fdB W t w=true):wdK w=2∧wdT w=t∧othB W t (frI w)=true∧∀ y ∈ W.l,y≠⟨t,frI w,enI w,wdG w⟩:=by
 unfold fdB at h
 simp only [Bool.and_eq_true,beq_iff_eq,Bool.not_eq_true'] at h
 refine⟨h.1.1.1,h.1.1.2,h.1.2,fun y hy e=>?_⟩
 have:=List.any_eq_false.1 h.2 y hy
 exact this (sam_iff.2 e)
end
end Wl
end Go.Proofs.YtdhgpmndgcggfaaGreatDoor
namespace Go.Proofs.YtdhgpmndgcggfaaGreatDoor
namespace Wl
open Hp Tn Px
section
variable {W V:Ws}{wd:List Wd}{o:Op}{τ y:Wt}{i k t w:Int}{a:An}{e:List En}
theorem at_len (h:Wf e){j:Int}{x:En}(hx:atE e j=some x):0≤j∧j≤7:=by
 obtain⟨h0,h1,_⟩:=atE_lt hx
 have:=h.len
 omega
end
end Wl
end Go.Proofs.YtdhgpmndgcggfaaGreatDoor
namespace Go.Proofs.YtdhgpmndgcggfaaGreatDoor
namespace Wl
open Hp Tn Px
end Wl
end Go.Proofs.YtdhgpmndgcggfaaGreatDoor
namespace Go.Proofs.YtdhgpmndgcggfaaGreatDoor
namespace Wl
open Hp Tn Px
section
variable {W V:Ws}{wd:List Wd}{o:Op}{τ y:Wt}{i k t w:Int}{a:An}{e:List En}
theorem doW_ten (h:kOf o.d=0):(doW W o).t=W.t:=by
 unfold doW
 split
 ·rfl
 ·rw [if_neg (by omega)]
  split
  ·unfold grW
   split <;> rfl
  ·split
   ·unfold rvW
    split <;> rfl
   ·split
    ·unfold acW
     split <;> rfl
    ·split
     ·unfold clW
      split <;> rfl
     ·rfl
theorem kOf_le (d:Int):0≤kOf d∧kOf d≤8:=by
 unfold kOf
 repeat' split
 all_goals omega
end
end Wl
end Go.Proofs.YtdhgpmndgcggfaaGreatDoor
namespace Go.Proofs.YtdhgpmndgcggfaaGreatDoor
namespace Wl
open Hp Tn Px
structure LtI (W:Ws):Prop where
 wf:∀ i k,Wf (W.x i k)
 let_:∀ y ∈ W.l,isT W y.rc=true∧othB W y.rc y.fr=true∧∃ x,atE (W.x y.fr y.rc) y.en=some x∧y.ge=x.g∧x.i≠0
 nd:W.l.Nodup
def ibx (W:Ws)(i k:Int):List Int:=(W.l.filter (ltB k i)).map Lt.en
section
variable {W V:Ws}{o:Op}{τ y:Wt}{i k t w:Int}{e:List En}
theorem lt_is {z:Lt}:ltB t k z=true ↔ z.rc=t∧z.fr=k:=by unfold ltB;simp
theorem LtI.setT (h:LtI W)(i:Int)(y:Wt):LtI (setT W i y):=by
 have hT:∀ k,isT (Wl.setT W i y) k=isT W k:=fun k=>by unfold isT Wl.setT;simp
 have hO:∀ t k,othB (Wl.setT W i y) t k=othB W t k:=fun t k=>by unfold othB;rw [hT]
 exact⟨h.wf,fun z hz=>by rw [hT,hO];exact h.let_ z hz,h.nd⟩
theorem LtI.tab (h:LtI W)(hw:Wf e)(h1:∀ z ∈ W.l,z.fr=i→z.rc=k→∀ x,atE (W.x i k) z.en=some x→z.ge=x.g→x.i≠0→∃ x',atE e z.en=some x'∧x'.g=x.g∧x'.i≠0):LtI (setX W i k e):=by
 refine⟨fun u v=>?_,fun z hz=>?_,h.nd⟩
 ·show Wf (upX W.x i k e u v)
  rw [upX_at]
  split
  ·exact hw
  ·exact h.wf u v
 ·obtain⟨l1,l2,x,hx,hg,hi⟩:=h.let_ z hz
  refine⟨l1,l2,?_⟩
  show ∃ x',atE (upX W.x i k e z.fr z.rc) z.en=some x'∧_
  rw [upX_at]
  split
  ·rename_i hh
   rw [hh.1,hh.2] at hx
   obtain⟨x',q1,q2,q3⟩:=h1 z hz hh.1 hh.2 x hx hg hi
   exact⟨x',q1,by rw [q2];exact hg,q3⟩
  ·exact⟨x,hx,hg,hi⟩
theorem LtI.rv (h:LtI W)(i k m:Int):LtI (setX W i k (rvS (W.x i k) m)):=by
 refine h.tab ((h.wf i k).rv m) (fun z _ _ _ x hx _ hi=>?_)
 unfold rvS
 cases hm:atE (W.x i k) m with
 | none=>exact⟨x,hx,rfl,hi⟩
 | some q =>
  simp only
  split
  ·rw [atE_set hm]
   split
   ·rename_i e1
    rw [e1,hm] at hx
    obtain rfl:=Option.some.inj hx
    exact⟨_,rfl,rfl,by show (2:Int)≠0;decide⟩
   ·exact⟨x,hx,rfl,hi⟩
  ·exact⟨x,hx,rfl,hi⟩
theorem LtI.cl (h:LtI W)(hf:fdB W t w=true):LtI (setX W (frI w) t (clS (W.x (frI w) t) (enI w) (wdG w))):=by
 obtain⟨f1,f2,f3,f4⟩:=fd_is hf
 refine h.tab ((h.wf _ _).cl _ _) (fun z hz z1 z2 x hx hg hi=>?_)
 unfold clS
 cases hm:atE (W.x (frI w) t) (enI w) with
 | none=>exact⟨x,hx,rfl,hi⟩
 | some q =>
  simp only
  split
  ·rename_i hw
   obtain⟨q',hq',g1,g2⟩:=wr_ok hw
   rw [hm] at hq'
   obtain rfl:=Option.some.inj hq'
   rw [atE_set hm]
   split
   ·rename_i e1
    rw [e1,hm] at hx
    obtain rfl:=Option.some.inj hx
    refine absurd ?_ (f4 z hz)
    cases z
    simp_all
   ·exact⟨x,hx,rfl,hi⟩
  ·exact⟨x,hx,rfl,hi⟩
theorem LtI.gr (h:LtI W)(hT:isT W k=true)(hO:othB W k i=true){c g:Int}(he:grE (W.x i k) c g=0) :
  LtI { (setX W i k (grS (W.x i k) c g)) with l:=W.l++[⟨k,i,grV (W.x i k) c g,gnZ (W.x i k) (grV (W.x i k) c g)⟩] }:=by
 obtain⟨_,_,z,hz,z0,z1,hg,hv,hS⟩:=gr_ok he
 have hs:=fun j=>atE_set (y:=⟨1,z.g,c,g⟩) hz j
 rw [Int.toNat_natCast] at hs
 have h1:LtI (setX W i k (grS (W.x i k) c g)):=by
  refine h.tab ((h.wf i k).gr c g) (fun y hy y1 y2 x hx hg hi=>?_)
  rw [hS,hs]
  split
  ·rename_i e1
   rw [e1,hz] at hx
   obtain rfl:=Option.some.inj hx
   exact absurd z0 hi
  ·exact⟨x,hx,rfl,hi⟩
 have hnew:∀ y ∈ W.l,y≠⟨k,i,grV (W.x i k) c g,gnZ (W.x i k) (grV (W.x i k) c g)⟩:=fun y hy e1=>by
  obtain⟨_,_,x,hx,_,hi⟩:=h.let_ y hy
  rw [e1,hv] at hx
  rw [hz] at hx
  obtain rfl:=Option.some.inj hx
  exact hi z0
 refine⟨h1.wf,fun y hy=>?_,?_⟩
 ·rcases List.mem_append.1 hy with hy | hy
  ·exact h1.let_ y hy
  ·obtain rfl:=List.mem_singleton.1 hy
   refine⟨hT,hO,?_⟩
   show ∃ x',atE (upX W.x i k (grS (W.x i k) c g) i k) (grV (W.x i k) c g)=some x'∧gnZ (W.x i k) (grV (W.x i k) c g)=x'.g∧_
   rw [upX_at,if_pos ⟨rfl,rfl⟩,hS,hv,hs,if_pos rfl,hg]
   exact⟨_,rfl,rfl,by show (1:Int)≠0;decide⟩
 ·show (W.l++[_]).Nodup
  rw [List.nodup_append]
  refine⟨h.nd,by simp,fun y hy z' hz'=>?_⟩
  obtain rfl:=List.mem_singleton.1 hz'
  exact hnew y hy
theorem LtI.ac (h:LtI W)(p:Lt→Bool):LtI { W with l:=W.l.eraseP p } :=
 ⟨h.wf,fun z hz=>h.let_ z (List.mem_of_mem_eraseP hz),h.nd.sublist List.eraseP_sublist⟩
theorem waits_is (h:LtI W)(f t en g:Int):(W.l.any fun y=>samB y ⟨t,f,en,g⟩)=(gnZ (W.x f t) en == g && (ibx W f t).contains en):=by
 rw [Bool.eq_iff_iff,List.any_eq_true,Bool.and_eq_true,beq_iff_eq,List.contains_iff_mem]
 constructor
 ·rintro ⟨y,hy,e⟩
  obtain rfl:y=_:=sam_iff.1 e
  obtain⟨_,_,x,hx,hg,_⟩:=h.let_ _ hy
  refine⟨?_,List.mem_map.2 ⟨_,List.mem_filter.2 ⟨hy,lt_is.2 ⟨rfl,rfl⟩⟩,rfl⟩⟩
  unfold gnZ
  rw [hx]
  exact hg.symm
 ·rintro ⟨h1,h2⟩
  obtain⟨y,hy,rfl⟩:=List.mem_map.1 h2
  obtain⟨hy1,hy2⟩:=List.mem_filter.1 hy
  obtain⟨rfl,rfl⟩:=lt_is.1 hy2
  obtain⟨_,_,x,hx,hg,_⟩:=h.let_ _ hy1
  refine⟨y,hy1,sam_iff.2 ?_⟩
  unfold gnZ at h1
  rw [hx] at h1
  simp only at h1
  rw [← h1,← hg]
theorem ibx_in (h:LtI W){j:Int}(hj:j ∈ ibx W i k):0≤j∧j≤7:=by
 obtain⟨y,hy,rfl⟩:=List.mem_map.1 hj
 obtain⟨hy1,hy2⟩:=List.mem_filter.1 hy
 obtain⟨_,_,x,hx,_,_⟩:=h.let_ _ hy1
 exact at_len (h.wf _ _) hx
theorem ibx_head (W:Ws)(i k:Int):(W.l.find? (ltB k i)).map Lt.en=(ibx W i k)[0]?:=by
 unfold ibx
 rw [← List.head?_filter]
 cases W.l.filter (ltB k i) <;> rfl
theorem first_ge (h:LtI W){z:Lt}(hz:W.l.find? (ltB k i)=some z):gnZ (W.x i k) z.en=z.ge∧z.rc=k∧z.fr=i∧(0≤z.en∧z.en≤7)∧1≤z.ge∧z.ge≤4294967295:=by
 obtain⟨rfl,rfl⟩:=lt_is.1 (List.find?_some hz)
 obtain⟨_,_,x,hx,hg,_⟩:=h.let_ _ (List.mem_of_find?_eq_some hz)
 have hk:=(h.wf _ _).at_ hx
 have:=hk.g1
 have:=hk.g2
 refine⟨?_,rfl,rfl,at_len (h.wf _ _) hx,by omega,by omega⟩
 unfold gnZ
 rw [hx]
 exact hg.symm
theorem ibx_snoc (z:Lt)(u v:Int):ibx { W with l:=W.l++[z] } u v=if z.rc=v∧z.fr=u then ibx W u v++[z.en] else ibx W u v:=by
 unfold ibx
 rw [List.filter_append]
 split
 ·rename_i hh
  have:ltB v u z=true:=lt_is.2 hh
  simp [this]
 ·rename_i hh
  have:ltB v u z=false:=by
   cases hb:ltB v u z
   ·rfl
   ·exact absurd (lt_is.1 hb) hh
  simp [this]
theorem tail_all {α:Type}{p:α→Bool}:∀ {l:List α},(∀ x ∈ l,p x=true)→l.eraseP p=l.tail
 | [],_=>rfl
 | x::l,h=>by rw [List.eraseP_cons_of_pos (h x (List.mem_cons_self ..))];rfl
theorem ibx_acc (u v:Int):ibx { W with l:=W.l.eraseP (ltB t k) } u v=if t=v∧k=u then (ibx W u v).tail else ibx W u v:=by
 unfold ibx
 show ((W.l.eraseP (ltB t k)).filter (ltB v u)).map Lt.en=_
 split
 ·rename_i hh
  obtain⟨rfl,rfl⟩:=hh
  rw [eraseP_on (fun _ h=>h),tail_all (fun x hx=>(List.mem_filter.1 hx).2),List.map_tail]
 ·rename_i hh
  rw [eraseP_off (fun y hy=>?_)]
  cases hb:ltB v u y
  ·rfl
  ·obtain⟨rfl,rfl⟩:=lt_is.1 hy
   exact absurd (lt_is.1 hb) hh
theorem ibx_tail (h:W.l.find? (ltB k i)=none):ibx W i k=[]:=by
 unfold ibx
 have:W.l.filter (ltB k i)=[]:=by
  rw [List.filter_eq_nil_iff]
  intro a ha
  exact List.find?_eq_none.1 h a ha
 rw [this]
 rfl
theorem few_of:∀ (n:Nat) {l:List Int},l.Nodup→(∀ x ∈ l,0≤x∧x<n)→l.length≤n
 | 0,l,_,h=>by
  cases l with
  | nil=>exact Nat.le_refl _
  | cons x l=>have:=h x (List.mem_cons_self ..);omega
 | n+1,l,hn,h=>by
  by_cases hm:(n:Int) ∈ l
  ·have h1:=few_of n (hn.erase (n:Int)) (fun x hx=>by
    obtain⟨e1,e2⟩:=(hn.mem_erase_iff).1 hx
    have:=h x e2
    omega)
   rw [List.length_erase_of_mem hm] at h1
   omega
  ·have h1:=few_of n hn (fun x hx=>by
    have:=h x hx
    have:x≠n:=fun e=>hm (e ▸ hx)
    omega)
   omega
theorem ibx_len (h:LtI W)(i k:Int):(ibx W i k).length≤8:=by
 have hn:(ibx W i k).Nodup:=by
  unfold ibx
  refine List.pairwise_map.2 (List.Pairwise.imp_of_mem (R:=fun x y=>x≠y) (fun {x y} hx hy hne e=>hne ?_) (h.nd.sublist List.filter_sublist))
  obtain⟨x1,x2⟩:=List.mem_filter.1 hx
  obtain⟨y1,y2⟩:=List.mem_filter.1 hy
  obtain⟨a1,a2⟩:=lt_is.1 x2
  obtain⟨b1,b2⟩:=lt_is.1 y2
  obtain⟨_,_,p,hp,hpg,_⟩:=h.let_ _ x1
  obtain⟨_,_,q,hq,hqg,_⟩:=h.let_ _ y1
  rw [a1,a2,e] at hp
  rw [b1,b2,hp] at hq
  obtain rfl:=Option.some.inj hq
  cases x;cases y
  simp_all
 exact few_of 8 hn (fun x hx=>by have:=ibx_in h hx;omega)
end
end Wl
end Go.Proofs.YtdhgpmndgcggfaaGreatDoor
namespace Go.Proofs.YtdhgpmndgcggfaaGreatDoor
namespace Tn
open Hp Go.RowKit
section
variable {x:Sh}{N:Int}{s:Hs}{c:Cs}
theorem root_held (h:Ok x s){i:Int}(hi:Rt.hasB s.r i=true):Rt.hasB (Gr.reachA s.gr s.r) i=true:=h.held_iff.2 (h.root_rch (Rt.hasB_iff.1 hi))
theorem slot_held (h:Ok x s){i k:Int}(hi:Rt.hasB s.r i=true)(hk:(gtV x s.cs s.vs i k).k=2):Rt.hasB (Gr.reachA s.gr s.r) (gtV x s.cs s.vs i k).n=true:=by
 have hr:=h.root_rch (Rt.hasB_iff.1 hi)
 have ht:takenZ s.cs i=true:=root_live h i (Rt.hasB_iff.1 hi)
 have hn:(⟨i,s.outs i⟩:Gr.Nd) ∈ s.gr.nodes:=by
  have h1:=live_iff.2 ht
  rw [gr_ids] at h1
  exact List.mem_map.2 ⟨i,h1,rfl⟩
 have ho:(gtV x s.cs s.vs i k).n ∈ s.outs i:=by
  unfold gtV at hk ⊢
  split at hk
  ·rename_i hp
   rw [if_pos hp]
   unfold vlAt at hk ⊢
   unfold Hs.outs ptrs
   cases hy:(s.vs[i.toNat]?.getD [])[k.toNat]? with
   | none =>
    rw [hy] at hk
    have e:(0:Int)=2:=hk
    omega
   | some y =>
    rw [hy] at hk
    exact List.mem_map.2 ⟨y,List.mem_filter.2 ⟨List.mem_of_getElem? hy,by simpa using hk⟩,rfl⟩
  ·have e:(0:Int)=2:=hk
   omega
 exact h.held_iff.2 (Gr.Rch.step hn hr ho)
theorem nm_root {w:Int}(h:nmE x N s w=0):Rt.hasB s.r (wdI w)=true:=(nm_yes.1 h).2.2.2
theorem nm_in {w:Int}(h:nmE x N s w=0):inN (wdI w) x.n=true:=(nm_yes.1 h).2.1
theorem sl_nm {w n:Int}(h:slE x N s w n=0):nmE x N s w=0:=by
 unfold slE at h
 split at h
 ·assumption
 ·exact h
theorem tn_user (h:Ok x s)(a:Tact)(ha:a.ok):tnC x s c a=c∧(tnS x N s c a=s∨∃ b:Hact,b.ok∧userB s b=true∧tnS x N s c a=doS x s b)∨∃ n:Nat,n≤65536∧tnS x N s c a=stS x n c s∧tnC x s c a=stC x n c s:=by
 have hr:=vals_small h
 obtain⟨_,h2,h3,h4,h5⟩:=ha
 have i0:i64ok 0:=by unfold i64ok;omega
 by_cases k7:a.k % 10=7∧budB a.n=true
 ·refine Or.inr ⟨a.n.toNat,?_,?_,?_⟩
  ·have:=k7.2
   unfold budB at this
   simp only [Bool.and_eq_true,decide_eq_true_eq] at this
   omega
  ·unfold tnS
   rw [if_neg (by omega),if_neg (by omega),if_neg (by omega),if_neg (by omega),if_neg (by omega),if_pos k7.1,if_pos k7.2]
  ·unfold tnC
   rw [if_pos k7]
 refine Or.inl ⟨by unfold tnC;rw [if_neg k7],?_⟩
 unfold tnS
 split
 ·unfold dropS
  split
  ·rename_i h1
   have hh:=root_held h (nm_root h1)
   exact Or.inr ⟨⟨3,wdI a.w,0,0,0⟩,hact_ok (by decide) (by decide) (wd_i64 _) (i0) (i0) (by decide) (by decide),by simp [userB,hh],(dr_do _).symm⟩
  ·exact Or.inl rfl
 split
 ·unfold loadS
  split
  ·rename_i h1
   have hh:=slot_held h (nm_root (sl_nm h1.1)) h1.2
   exact Or.inr ⟨⟨2,_,0,0,0⟩,hact_ok (by decide) (by decide) (hr _ _) (i0) (i0) (by decide) (by decide),by simp [userB,hh],(ho_do _).symm⟩
  ·exact Or.inl rfl
 split
 ·unfold storeS
  split
  ·rename_i h1
   have hh:=root_held h (nm_root (sl_nm h1.1))
   exact Or.inr ⟨⟨4,wdI a.w,a.n,1,a.o⟩,hact_ok (by decide) (by decide) (wd_i64 _) (h4) (by unfold i64ok;decide) (h3.1) (h3.2),by simp [userB,hh],(pu_do _ _ ⟨1,a.o⟩).symm⟩
  ·exact Or.inl rfl
 split
 ·unfold pointS
  split
  ·rename_i h1
   have hh:=root_held h (nm_root (sl_nm h1))
   split
   ·exact Or.inr ⟨⟨4,wdI a.w,a.n,0,0⟩,hact_ok (by decide) (by decide) (wd_i64 _) (h4) (i0) (by decide) (by decide),by simp [userB,hh],(pu_do _ _ ⟨0,0⟩).symm⟩
   ·split
    ·rename_i h6
     have hh2:=root_held h (nm_root h6)
     have hb:=inN_in (nm_in h6)
     have hx:=(Sh.wd_is h.may).2.2
     have e2:wdI a.o % 192=wdI a.o:=by omega
     have hlt:wdI a.o<192:=by omega
     exact Or.inr ⟨⟨4,wdI a.w,a.n,2,wdI a.o⟩,hact_ok (by decide) (by decide) (wd_i64 _) (h4) (by unfold i64ok;decide) (by unfold u64ok at h3;unfold wdI;omega) (by unfold u64ok at h3;unfold wdI;omega),by simp [userB,hh,hh2,e2,hlt],(pu_do _ _ ⟨2,wdI a.o⟩).symm⟩
    ·exact Or.inl rfl
  ·exact Or.inl rfl
 split
 ·split
  ·exact Or.inr ⟨⟨6,0,a.n,0,0⟩,hact_ok (by decide) (by decide) (i0) (h4) (i0) (by decide) (by decide),by simp [userB],(dn_do _).symm⟩
  ·exact Or.inl rfl
 split
 ·rename_i e7
  split
  ·rename_i e8
   exact absurd ⟨e7,e8⟩ k7
  ·exact Or.inl rfl
 split
 ·exact Or.inl rfl
 split
 ·exact Or.inl rfl
 ·exact Or.inr ⟨⟨0,0,a.n,0,0⟩,hact_ok (by decide) (by decide) (i0) (h4) (i0) (by decide) (by decide),by simp [userB],(al_do _).symm⟩
theorem ci_tn (h:CI x c s)(a:Tact)(ha:a.ok)(h1:s.ch≤4611686018427300000)(hf:s.all.length≤800):CI x (tnC x s c a) (tnS x N s c a)∧(tnS x N s c a).ch≤s.ch+65536∧(tnS x N s c a).all.length≤s.all.length+1:=by
 rcases tn_user (N:=N) (c:=c) h.ok a ha with ⟨e1,e | ⟨b,hb,hu,e⟩⟩ | ⟨n,hn,e,e1⟩
 ·rw [e1,e]
  exact⟨h,by omega,by omega⟩
 ·rw [e1,e]
  have h2:=(h.ok.do_ b hb).2
  have h3:=h.do_ b hb hu (by omega) (by omega)
  exact⟨h3.1,by have:=h3.2;omega,h2⟩
 ·rw [e1,e]
  have h3:=h.st n (by omega)
  exact⟨h3.1,by have:=h3.2.1;omega,by have:=h.st_len n (by omega);omega⟩
end
end Tn
end Go.Proofs.YtdhgpmndgcggfaaGreatDoor
namespace Go.Proofs.YtdhgpmndgcggfaaGreatDoor
namespace Wl
open Hp Tn Px
def Op.ok (o:Op):Prop:=i64ok o.d∧i64ok o.t∧u64ok o.w∧u64ok o.o∧i64ok o.n∧i64ok o.m
section
variable {W V W0:Ws}{ops xs:List Op}{a b:Int}{o:Op}{τ:Wt}{n k:Nat}
theorem tn_mem (h:tn W a=some τ):τ ∈ W.t:=by
 unfold tn at h
 split at h
 ·cases h
 ·exact List.mem_of_getElem? h
def Wbd (n:Nat)(W:Ws):Prop:=∀ τ ∈ W.t,τ.s.ch≤65536 * n∧τ.s.all.length≤n
theorem Wbd.ok (h:Wbd n W)(hn:n≤700):∀ τ ∈ W.t,τ.s.ch≤4611686018427300000∧τ.s.all.length≤800:=fun τ hτ=>by
 have:=h τ hτ
 omega
theorem Wbd.more (h:Wbd n W)(hk:n≤k):Wbd k W:=fun τ hτ=>by have:=h τ hτ;omega
theorem act_ok (ho:o.ok):(actOf o).ok:=⟨⟨(kOf_le o.d).1,by have:=(kOf_le o.d).2;show kOf o.d≤255;omega⟩,ho.2.2.1,ho.2.2.2.1,ho.2.2.2.2.1,ho.2.2.2.2.2⟩
theorem doW_cases (W:Ws)(o:Op):(doW W o).t=W.t∨∃ σ,tn W o.t=some σ∧doW W o=setT W o.t ⟨σ.x,tnS σ.x o.t σ.s σ.c (actOf o),tnC σ.x σ.s σ.c (actOf o)⟩:=by
 by_cases hk:kOf o.d=0
 ·exact Or.inl (doW_ten hk)
 ·cases hσ:tn W o.t with
  | none =>
   left
   unfold doW
   rw [hσ]
  | some σ =>
   right
   refine⟨σ,rfl,?_⟩
   unfold doW
   rw [hσ]
   simp only
   rw [if_pos hk]
theorem setT_mem {i:Int}{y:Wt}(h:τ ∈ (setT W i y).t):τ=y∨τ ∈ W.t:=by
 unfold setT at h
 rcases List.mem_or_eq_of_mem_set h with h | h
 ·exact Or.inr h
 ·exact Or.inl h
theorem Wbd.begin (l:List Sh)(hl:∀ x ∈ l,x.may=true):Wbd 0 (beginW l):=fun τ hτ=>by
 obtain⟨x,hx,rfl⟩:=List.mem_map.1 hτ
 simp only
 rw [init_all14 (hl x hx)]
 exact⟨by show (0:Int)≤_;omega,Nat.le_refl _⟩
def CiW (W:Ws):Prop:=∀ τ ∈ W.t,CI τ.x τ.c τ.s
theorem CiW.do_ (h:CiW W)(hb:Wbd n W)(hn:n≤700)(ho:o.ok):CiW (doW W o)∧Wbd (n+1) (doW W o):=by
 rcases doW_cases W o with e | ⟨σ,hσ,e⟩
 ·refine⟨fun τ hτ=>?_,fun τ hτ=>?_⟩
  ·rw [e] at hτ
   exact h τ hτ
  ·rw [e] at hτ
   have:=hb τ hτ
   omega
 ·have h1:=hb σ (tn_mem hσ)
  have h2:=ci_tn (N:=o.t) (h σ (tn_mem hσ)) (actOf o) (act_ok ho) (by omega) (by omega)
  refine⟨fun τ hτ=>?_,fun τ hτ=>?_⟩
  ·rw [e] at hτ
   rcases setT_mem hτ with rfl | hτ
   ·exact h2.1
   ·exact h τ hτ
  ·rw [e] at hτ
   rcases setT_mem hτ with rfl | hτ
   ·simp only
    omega
   ·have:=hb τ hτ
    omega
end
end Wl
end Go.Proofs.YtdhgpmndgcggfaaGreatDoor
namespace Go.Proofs.YtdhgpmndgcggfaaGreatDoor
namespace Wl
open Hp Tn Px
section
variable {W V:Ws}{wd:List Wd}{o:Op}{τ:Wt}{n:Nat}{ls:List Sh}
theorem CiW.begin (hl:∀ x ∈ ls,x.may=true):CiW (beginW ls):=fun τ hτ=>by
 obtain⟨x,hx,rfl⟩:=List.mem_map.1 hτ
 exact CI.init (Ok.init (hl x hx)) (by rw [init_all14 (hl x hx)];exact Nat.zero_le _)
end
end Wl
end Go.Proofs.YtdhgpmndgcggfaaGreatDoor
